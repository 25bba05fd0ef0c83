/- The walk through FnCoefs, for a program that answers by the common answers. Condition: the program's own contracts, wherever nothing that was there before has turned. -/
import Derived.Test.YtmpdkediffpjdaaDoorDrwB
import Derived.Test.YtmpdkediffpjdaaDoorGb
import Derived.Deep.RegionHeld3
import Derived.Deep.CutBlock
import Derived.Deep.DeepCutAuto
namespace Go.Proofs.YtmpdkediffpjdaaDoor.CofW
open Go.ChangeShapes Go.WideShapes Go.ChangeAt Go.RowKit Go.Proofs.YtmpdkediffpjdaaDoor.Num Go.Proofs.YtmpdkediffpjdaaDoor.Sli Go.Proofs.YtmpdkediffpjdaaDoor.App Go.Proofs.YtmpdkediffpjdaaDoor.Blk Go.Proofs.YtmpdkediffpjdaaDoor.HalM Go.Proofs.YtmpdkediffpjdaaDoor.HalN Go.Proofs.YtmpdkediffpjdaaDoor.IntL Go.Proofs.YtmpdkediffpjdaaDoor.IntA Go.Proofs.YtmpdkediffpjdaaDoor.BloS
open Go.Proofs.YtmpdkediffpjdaaDoor.DrwB (drawGather_calls drawSpread_calls drawHalve_calls)

theorem fieldI (c v : Value) (w : World) : (Instr.field 27 (.agg #[c, v]) 0).run Tryd.prog w = .ok c w := by kernel_rfl
attribute [local go_sem] fieldI
/-- A drawn list, and an answer that holds a list. -/
structure C1 (w : World) (R : Nat) (c : Int) (l u : Value) (ys zs : List Int) (W : World) : Prop where
  r : Blk W R #[.int .i64 c, u] 27
  l : Sl .i64 W l ys
  u : Sl .i64 W u zs
  b : Below w.heap.size w W
section
variable {w W W' : World} {R C : Nat} {c c2 : Int} {l u u2 : Value} {ys zs zs2 : List Int}
theorem C1.later (h : C1 w R c l u ys zs W) (hb : Below W.heap.size W W') : C1 w R c l u ys zs W' := ⟨h.r.later hb, h.l.later hb, h.u.later hb, bthen h.b hb⟩
theorem C1.drew (h : C1 w R c l u ys zs W) : C1 w R c l u ys zs W.drew := ⟨h.r, h.l, h.u, h.b.drew⟩
end
/-- And a second one. -/
structure C2 (w : World) (R C : Nat) (c2 : Int) (l u u2 : Value) (ys zs zs2 : List Int) (W : World) : Prop where
  k : C1 w R 0 l u ys zs W
  r : Blk W C #[.int .i64 c2, u2] 27
  u : Sl .i64 W u2 zs2
section
variable {w W W' : World} {R C : Nat} {c c2 : Int} {l u u2 : Value} {ys zs zs2 : List Int}
theorem C2.later (h : C2 w R C c2 l u u2 ys zs zs2 W) (hb : Below W.heap.size W W') : C2 w R C c2 l u u2 ys zs zs2 W' := ⟨h.k.later hb, h.r.later hb, h.u.later hb⟩
theorem C2.drew (h : C2 w R C c2 l u u2 ys zs zs2 W) : C2 w R C c2 l u u2 ys zs zs2 W.drew := ⟨h.k.drew, h.r, h.u⟩
end
set_option maxRecDepth 100000 in
set_option maxHeartbeats 4000000 in
theorem fnCoefs_calls (a : Option Addr) (cap : Nat) (bs : List Int) (w : World) (hsl : Sl .u8 w (.slice a bs.length cap) bs) (hbd : ∀ x ∈ bs, 0 ≤ x ∧ x ≤ 255)
    (HS0 : ∀ (v : Value) (l : List Int) (W : World), Below w.heap.size w W → Sl .i64 W v l → Fits v → l.length ≤ 1048576 → Calls Tryd.prog 11 #[v] W fun e w' => ∃ u, e = .returned (.agg #[.int .i64 (sbC l), u]) ∧ OwI W.heap.size w' u (sbL l) ∧ Below W.heap.size W w')
    (HG0 : ∀ (v : Value) (l : List Int) (W : World), Below w.heap.size w W → Sl .i64 W v l → l.length ≤ 1048576 → Calls Tryd.prog 20 #[v] W fun e w' => ∃ u, e = .returned (.agg #[.int .i64 (gbC l), u]) ∧ OwI W.heap.size w' u (gbL l) ∧ Below W.heap.size W w') :
    Calls Tryd.prog 4 #[.slice a bs.length cap] w fun e w' => e = .returned (.bool true) ∧ Below w.heap.size w w' := by
  have HS := hid HS0
  have HG := hid HG0
  clear HS0 HG0
  by_cases hbig : 1048576 < bs.length
  · have hb' : (1048576 : Int) < bs.length := by omega
    clear hsl hbd
    go_enter Tryd.func4, Tryd.ntmps4
    go_wp2
    go_ret
    exact ⟨rfl, Below.refl _ _⟩
  · have hb' : (bs.length : Int) ≤ 1048576 := by omega
    have H1 := hid (drawGather_calls a cap bs w hsl hbd (by omega))
    clear hsl hbd
    go_enter Tryd.func4, Tryd.ntmps4
    go_wp2_with (first | (go_at_call 9; go_in) | fail)
    refine H1.out.mono ?_
    rintro e w1 ⟨gl, cl, n, ys, rfl, ho1, hn1, hn16, hb1⟩
    have Hn := hid hn1
    have Hy16 : Hid (ys.length ≤ 16) := by show _ ≤ _; omega
    have HO1 := hid ho1.sl
    have HB1 := hid hb1
    clear ho1 hb1 hn1 H1
    go_wp2_with fail
    refine (HG.out _ ys _ HB1.out HO1.out (by have := Hy16.out; omega)).mono ?_
    rintro e w2 ⟨u, rfl, ho2, hb2⟩
    have HK : Hid (C1 w w2.heap.size (gbC ys) (.slice (some ⟨gl, 0, none⟩) n cl) u ys (gbL ys) (w2.alloc (.cells #[.int .i64 (gbC ys), u] 27))) := by
      have ha := bmore (Below.refl w2.heap.size w2) (.cells #[.int .i64 (gbC ys), u] 27)
      exact ⟨Blk.new _ _ _, (HO1.out.later hb2).later ha, ho2.sl.later ha, bthen (bthen HB1.out hb2) ha⟩
    have HFu := hid ho2.fits
    obtain ⟨au, cu, rfl, _⟩ := ho2.sl
    clear ho2 hb2 HO1 HB1
    have HSG := hid (fun W (hW : Sl .i64 W (.slice (some ⟨gl, 0, none⟩) n cl) ys) => specGatherBlock_calls _ ys W hW (by have := Hy16.out; omega))
    have hKd := HK.out.drew
    have Hzl := hid (gbL_small ys)
    go_wp2_with fail
    generalize w2.alloc (.cells #[.int .i64 (gbC ys), .slice au (gbL ys).length cu] 27) = w3 at *
    generalize w2.heap.size = R at *
    generalize hgc : gbC ys = gc at *
    generalize hgz : gbL ys = zs at *
    have E := hid (And.intro hgc hgz)
    clear hgc hgz
    refine wp_region_noPanic ?_
    refine wp_region_held_drew (S := fun W => C1 w R gc (.slice (some ⟨gl, 0, none⟩) n cl) (.slice au zs.length cu) ys zs W) (by kernel_rfl) ?_ (fun hHeld => ?_)
    · assumption
    (refine wpAnyH_take (i := 0) (v := ?_) rfl (by kernel_rfl) (by kernel_rfl) (by kernel_rfl) (fun _ _ _ h => h) (Or.inl ⟨by rfl, ?_⟩) hHeld ?_; rotate_left; (intro w hSw; (obtain ⟨m0, _⟩ := hSw.r.two; clear hSw); (go_simp <;> with_reducible rfl)); simp only [List.getElem_toArray, List.getElem_cons_zero, Act.put, List.setIfInBounds_toArray, List.set_cons_zero, List.set_cons_succ])
    (refine wpAnyH_take (i := 1) (v := ?_) rfl (by kernel_rfl) (by kernel_rfl) (by kernel_rfl) (fun _ _ _ h => h) (Or.inl ⟨by rfl, ?_⟩) hHeld ?_; rotate_left; (intro w hSw; (obtain ⟨m0, _⟩ := hSw.r.two; clear hSw); (go_simp <;> with_reducible rfl)); simp only [List.getElem_toArray, List.getElem_cons_zero, List.getElem_cons_succ, Act.put, List.setIfInBounds_toArray, List.set_cons_zero, List.set_cons_succ])
    (refine wpAnyH_take (i := 2) (v := ?_) rfl (by kernel_rfl) (by kernel_rfl) (by kernel_rfl) (fun _ _ _ h => h) (Or.inl ⟨by rfl, ?_⟩) hHeld ?_; rotate_left; (intro w hSw; (obtain ⟨m0, _⟩ := hSw.r.two; clear hSw); (go_simp <;> with_reducible rfl)); simp only [List.getElem_toArray, List.getElem_cons_zero, List.getElem_cons_succ, Act.put, List.setIfInBounds_toArray, List.set_cons_zero, List.set_cons_succ])
    (refine wpAnyH_ready (rs := [3]) (by kernel_rfl) (by simp) ?_; refine AllReadyH.cons rfl (fun K hK => ?_) AllReadyH.nil; go_simp; (refine (HSG.out _ hHeld.l).mono ?_; rintro e w9 ⟨u9, rfl, _, hb9⟩; have hK1 := hHeld.later hb9); refine hK.out _ _ ?_ (fun hHeld => ?_); (assumption); clear hK K; try dsimp only)
    (refine wpAnyH_take (i := 4) (v := ?_) rfl (by kernel_rfl) (by kernel_rfl) (by kernel_rfl) (fun _ _ _ h => h) (Or.inl ⟨by rfl, ?_⟩) hHeld ?_; rotate_left; (intro w hSw; (obtain ⟨m0, _⟩ := hSw.r.two; clear hSw); (go_simp <;> with_reducible rfl)); simp only [List.getElem_toArray, List.getElem_cons_zero, List.getElem_cons_succ, Act.put, List.setIfInBounds_toArray, List.set_cons_zero, List.set_cons_succ])
    (refine wpAnyH_take (i := 5) (v := ?_) rfl (by kernel_rfl) (by kernel_rfl) (by kernel_rfl) (fun _ _ _ h => h) (Or.inl ⟨by rfl, ?_⟩) hHeld ?_; rotate_left; (intro w hSw; (obtain ⟨m0, _⟩ := hSw.r.two; clear hSw); (go_simp <;> with_reducible rfl)); simp only [List.getElem_toArray, List.getElem_cons_zero, List.getElem_cons_succ, Act.put, List.setIfInBounds_toArray, List.set_cons_zero, List.set_cons_succ])
    refine wpAnyH_done (by kernel_rfl) ?_ _
    refine NoPanic.normal ?_
    have HK9 := hid hHeld
    clear hHeld hK1 hb9 HK hKd HSG
    obtain ⟨m0, m1, _, _⟩ := HK9.out.r.two
    by_cases hg0 : gc = 0
    · subst hg0
      have hz0 : gbC ys = 0 := E.out.1
      have HL := hid (law_coefs hz0)
      rw [E.out.2] at HL
      clear E hz0
      go_wp2_with fail
      refine (HS.out _ zs _ HK9.out.b HK9.out.u HFu.out Hzl.out).mono ?_
      rintro e w5 ⟨u5, rfl, ho5, hb5⟩
      have HK5 : Hid (C2 w R w5.heap.size (sbC zs) (.slice (some ⟨gl, 0, none⟩) n cl) (.slice au zs.length cu) u5 ys zs (sbL zs) (w5.alloc (.cells #[.int .i64 (sbC zs), u5] 27))) := by
        have ha := bmore (Below.refl w5.heap.size w5) (.cells #[.int .i64 (sbC zs), u5] 27)
        exact ⟨(HK9.out.later hb5).later ha, Blk.new _ _ _, ho5.sl.later ha⟩
      obtain ⟨a5, c5, rfl, _⟩ := ho5.sl
      clear ho5 hb5 HK9 m0 m1 HS HG
      obtain ⟨r0, r1, _, _⟩ := HK5.out.r.two
      by_cases hc0 : sbC zs = 0
      · have hE := HL.out hc0
        rw [hc0] at HK5 r0 ⊢
        rw [hE] at HK5 r1 ⊢
        clear hc0 hE HL
        go_wp2_with fail
        refine (lwNums_calls _ _ ys _ HK5.out.u HK5.out.k.l (by have := Hy16.out; omega)).mono ?_
        rintro e w6 ⟨rfl, hb6⟩
        have HB6 := hid (bthen HK5.out.k.b hb6)
        clear hb6 HK5 r0 r1
        go_wp2
        go_ret
        exact ⟨rfl, HB6.out⟩
      · have hcb : (sbC zs != 0) = true := by simpa using hc0
        have HSS := hid (fun W (hW : Sl .i64 W (.slice au zs.length cu) zs) => specSpreadBlock_calls _ zs W hW Hzl.out)
        have hKd := HK5.out.drew
        clear hc0 HL
        generalize sbC zs = sc at *
        generalize sbL zs = ts at *
        go_wp2_with fail
        generalize w5.alloc (.cells #[.int .i64 sc, .slice a5 ts.length c5] 27) = w8 at *
        generalize w5.heap.size = C at *
        refine wp_region_noPanic ?_
        refine wp_region_held_drew (S := fun W => C2 w R C sc (.slice (some ⟨gl, 0, none⟩) n cl) (.slice au zs.length cu) (.slice a5 ts.length c5) ys zs ts W) (by kernel_rfl) ?_ (fun hHeld => ?_)
        · assumption
        (refine wpAnyH_take (i := 0) (v := ?_) rfl (by kernel_rfl) (by kernel_rfl) (by kernel_rfl) (fun _ _ _ h => h) (Or.inl ⟨by rfl, ?_⟩) hHeld ?_; rotate_left; (intro w hSw; (obtain ⟨m0, m1, _⟩ := hSw.k.r.two; obtain ⟨n0, n1, _⟩ := hSw.r.two; clear hSw); (go_simp <;> with_reducible rfl)); simp only [List.getElem_toArray, List.getElem_cons_zero, Act.put, List.setIfInBounds_toArray, List.set_cons_zero, List.set_cons_succ])
        (refine wpAnyH_take (i := 1) (v := ?_) rfl (by kernel_rfl) (by kernel_rfl) (by kernel_rfl) (fun _ _ _ h => h) (Or.inl ⟨by rfl, ?_⟩) hHeld ?_; rotate_left; (intro w hSw; (obtain ⟨m0, m1, _⟩ := hSw.k.r.two; obtain ⟨n0, n1, _⟩ := hSw.r.two; clear hSw); (go_simp <;> with_reducible rfl)); simp only [List.getElem_toArray, List.getElem_cons_zero, List.getElem_cons_succ, Act.put, List.setIfInBounds_toArray, List.set_cons_zero, List.set_cons_succ])
        (refine wpAnyH_take (i := 2) (v := ?_) rfl (by kernel_rfl) (by kernel_rfl) (by kernel_rfl) (fun _ _ _ h => h) (Or.inl ⟨by rfl, ?_⟩) hHeld ?_; rotate_left; (intro w hSw; (obtain ⟨m0, m1, _⟩ := hSw.k.r.two; obtain ⟨n0, n1, _⟩ := hSw.r.two; clear hSw); (go_simp <;> with_reducible rfl)); simp only [List.getElem_toArray, List.getElem_cons_zero, List.getElem_cons_succ, Act.put, List.setIfInBounds_toArray, List.set_cons_zero, List.set_cons_succ])
        (refine wpAnyH_take (i := 3) (v := ?_) rfl (by kernel_rfl) (by kernel_rfl) (by kernel_rfl) (fun _ _ _ h => h) (Or.inl ⟨by rfl, ?_⟩) hHeld ?_; rotate_left; (intro w hSw; (obtain ⟨m0, m1, _⟩ := hSw.k.r.two; obtain ⟨n0, n1, _⟩ := hSw.r.two; clear hSw); (go_simp <;> with_reducible rfl)); simp only [List.getElem_toArray, List.getElem_cons_zero, List.getElem_cons_succ, Act.put, List.setIfInBounds_toArray, List.set_cons_zero, List.set_cons_succ])
        (refine wpAnyH_ready (rs := [4]) (by kernel_rfl) (by simp) ?_; refine AllReadyH.cons rfl (fun K hK => ?_) AllReadyH.nil; go_simp; (refine (HSS.out _ hHeld.k.u).mono ?_; rintro e w9 ⟨u9, rfl, _, hb9⟩; have hK1 := hHeld.later hb9); refine hK.out _ _ ?_ (fun hHeld => ?_); (assumption); clear hK K; try dsimp only)
        (refine wpAnyH_take (i := 5) (v := ?_) rfl (by kernel_rfl) (by kernel_rfl) (by kernel_rfl) (fun _ _ _ h => h) (Or.inl ⟨by rfl, ?_⟩) hHeld ?_; rotate_left; (intro w hSw; (obtain ⟨m0, m1, _⟩ := hSw.k.r.two; obtain ⟨n0, n1, _⟩ := hSw.r.two; clear hSw); (go_simp <;> with_reducible rfl)); simp only [List.getElem_toArray, List.getElem_cons_zero, List.getElem_cons_succ, Act.put, List.setIfInBounds_toArray, List.set_cons_zero, List.set_cons_succ])
        (refine wpAnyH_take (i := 6) (v := ?_) rfl (by kernel_rfl) (by kernel_rfl) (by kernel_rfl) (fun _ _ _ h => h) (Or.inl ⟨by rfl, ?_⟩) hHeld ?_; rotate_left; (intro w hSw; (obtain ⟨m0, m1, _⟩ := hSw.k.r.two; obtain ⟨n0, n1, _⟩ := hSw.r.two; clear hSw); (go_simp <;> with_reducible rfl)); simp only [List.getElem_toArray, List.getElem_cons_zero, List.getElem_cons_succ, Act.put, List.setIfInBounds_toArray, List.set_cons_zero, List.set_cons_succ])
        (refine wpAnyH_take (i := 7) (v := ?_) rfl (by kernel_rfl) (by kernel_rfl) (by kernel_rfl) (fun _ _ _ h => h) (Or.inl ⟨by rfl, ?_⟩) hHeld ?_; rotate_left; (intro w hSw; (obtain ⟨m0, m1, _⟩ := hSw.k.r.two; obtain ⟨n0, n1, _⟩ := hSw.r.two; clear hSw); (go_simp <;> with_reducible rfl)); simp only [List.getElem_toArray, List.getElem_cons_zero, List.getElem_cons_succ, Act.put, List.setIfInBounds_toArray, List.set_cons_zero, List.set_cons_succ])
        refine wpAnyH_done (by kernel_rfl) ?_ _
        refine NoPanic.normal ?_
        have HKz := hid hHeld
        clear hHeld hKd HSS
        go_wp2
        go_ret
        exact ⟨rfl, HKz.out.k.b⟩
    · have hgb : (gc != 0) = true := by simpa using hg0
      clear hg0 E HS HG
      go_wp2
      go_ret
      exact ⟨rfl, HK9.out.b⟩
end Go.Proofs.YtmpdkediffpjdaaDoor.CofW
