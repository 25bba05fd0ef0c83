/- The walk through FnGathers, for a program that answers by the common answers. Condition: the program's own contracts, wherever nothing that was there before has turned. -/
import Derived.Test.YtbakmphopgkpmaaDoorDrwS8
import Derived.Test.YtbakmphopgkpmaaDoorLwB
import Derived.Test.YtbakmphopgkpmaaDoorBndF
import Derived.Test.YtbakmphopgkpmaaDoorBndW
import Derived.Test.YtbakmphopgkpmaaDoorGb
import Derived.Deep.RegionHeld3
import Derived.Deep.CutBlock
import Derived.Deep.DeepCutAuto
namespace Go.Proofs.YtbakmphopgkpmaaDoor.GtW
open Go.ChangeShapes Go.WideShapes Go.ChangeAt Go.RowKit Go.Proofs.YtbakmphopgkpmaaDoor.Num Go.Proofs.YtbakmphopgkpmaaDoor.Sli Go.Proofs.YtbakmphopgkpmaaDoor.App Go.Proofs.YtbakmphopgkpmaaDoor.Blk Go.Proofs.YtbakmphopgkpmaaDoor.HalM Go.Proofs.YtbakmphopgkpmaaDoor.HalN Go.Proofs.YtbakmphopgkpmaaDoor.IntL Go.Proofs.YtbakmphopgkpmaaDoor.IntA Go.Proofs.YtbakmphopgkpmaaDoor.BloS Go.Proofs.YtbakmphopgkpmaaDoor.LapM Go.Proofs.YtbakmphopgkpmaaDoor.BndM Go.Proofs.YtbakmphopgkpmaaDoor.BndF Go.Proofs.YtbakmphopgkpmaaDoor.BndW Go.Proofs.YtbakmphopgkpmaaDoor.LwB
open Go.Proofs.YtbakmphopgkpmaaDoor.DrwB (drawGather_calls)
open Go.Proofs.YtbakmphopgkpmaaDoor.DrwS8 (drawGatherBounds_calls bdL)

theorem bdL_lim {ys : List Int} (h : bdL ys) : lim 1099511627776 ys := fun i => by
  by_cases hi : i < ys.length
  · have := h (ys.getD i 0) (by rw [List.getD_eq_getElem?_getD, List.getElem?_eq_getElem hi, Option.getD_some]; exact List.getElem_mem hi)
    omega
  · rw [List.getD_eq_getElem?_getD, List.getElem?_eq_none (by omega), Option.getD_none]; omega
theorem far_get {l : List Int} {i : Nat} (h : l.length ≤ i) : l.getD i 0 = 0 := by rw [List.getD_eq_getElem?_getD, List.getElem?_eq_none h, Option.getD_none]
theorem bent_nrL {ys es ts : List Int} (he : BndG.nlim 67108864 es) (hy : lim 1099511627776 ys) (hl : ys.length = es.length) (ht : ts.length = ys.length) (hb : bent ys es ts) : nrL es ys ts := fun i => by
  by_cases hi : i < ts.length
  · have h1 := hb i hi (hy i)
    have h2 := he i
    unfold nr at *
    unfold absV at h1
    split at h1 <;> omega
  · rw [far_get (by omega), far_get (by omega), far_get (by omega)]; unfold nr; omega
theorem gathers_law {ys ts es : List Int} (h0 : gbdC es = 0) (hl : ys.length = es.length) (ht : ts.length = ys.length) (hb : bent ys es ts) (ha : gbC ys = 0) (hc : gbC ts = 0) : wiB (gbL ys) (gbL ts) (gbdL es) = true := by
  obtain ⟨h3, hlim⟩ := gbd_ok h0
  obtain ⟨-, y2⟩ := gb_ok ha
  obtain ⟨-, t2⟩ := gb_ok hc
  obtain ⟨e1, e2⟩ := dep_pow (is3_sz h3)
  rw [show gbL ys = ga (dep ys.length) ys from if_pos ha, show gbL ts = ga (dep ts.length) ts from if_pos hc, show gbdL es = gaB (dep es.length) es from if_pos h0]
  have l1 : ys.length = 2 ^ dep es.length := hl.trans e1
  have l2 : ts.length = 2 ^ dep es.length := ht.trans l1
  rw [ht, hl]
  have hB : bG (dep es.length) 16777216 ≤ 1099511627776 := by rcases is3_sz h3 with e | e | e | e <;> rw [e] <;> decide
  exact wi_yes (by rw [ga_len _ _ l1, ga_len _ _ l2]) (by rw [ga_len _ _ l1, gaB_len _ _ e1]) ((lim_ga _ e2 l1 y2).mono hB) ((lim_ga _ e2 l2 t2).mono hB) (ga_nr _ e1 l1 l2 (bent_nrL hlim (y2.mono (by omega)) hl ht hb))
theorem fieldI (c v : Value) (w : World) : (Instr.field 35 (.agg #[c, v]) 0).run Tryd.prog w = .ok c w := by kernel_rfl
attribute [local go_sem] fieldI
/-- Two drawn lists, and an answer that holds a list. -/
structure G1 (w : World) (R : Nat) (c : Int) (l e u : Value) (ys es zs : List Int) (W : World) : Prop where
  r : Blk W R #[.int .i64 c, u] 35
  l : Sl .i64 W l ys
  e : Sl .i64 W e es
  u : Sl .i64 W u zs
  b : Below w.heap.size w W
/-- And another answer. -/
structure GA (A : Nat) (c : Int) (u : Value) (zs : List Int) (W : World) : Prop where
  r : Blk W A #[.int .i64 c, u] 35
  u : Sl .i64 W u zs
section
variable {w W W' : World} {R A : Nat} {c : Int} {l e u : Value} {ys es zs : List Int}
theorem G1.later (h : G1 w R c l e u ys es zs W) (hb : Below W.heap.size W W') : G1 w R c l e u ys es zs W' := ⟨h.r.later hb, h.l.later hb, h.e.later hb, h.u.later hb, bthen h.b hb⟩
theorem G1.drew (h : G1 w R c l e u ys es zs W) : G1 w R c l e u ys es zs W.drew := ⟨h.r, h.l, h.e, h.u, h.b.drew⟩
theorem GA.later (h : GA A c u zs W) (hb : Below W.heap.size W W') : GA A c u zs W' := ⟨h.r.later hb, h.u.later hb⟩
theorem GA.new {base : Nat} (h : OwI base W u zs) (c : Int) : GA W.heap.size c u zs (W.alloc (.cells #[.int .i64 c, u] 35)) := ⟨Blk.new _ _ _, h.sl.later (bmore (Below.refl _ _) _)⟩
end
set_option maxRecDepth 100000 in
set_option maxHeartbeats 4000000 in
theorem fnGathers_calls (a : Option Addr) (cap : Nat) (bs : List Int) (w : World) (hsl : Sl .u8 w (.slice a bs.length cap) bs) (hbd : ∀ x ∈ bs, 0 ≤ x ∧ x ≤ 255)
    (HX0 : ∀ (v : Value) (l : List Int) (W : World), Below w.heap.size w W → Sl .i64 W v l → Fits v → l.length ≤ 1048576 → Calls Tryd.prog 22 #[v] W fun e w' => ∃ u, e = .returned (.agg #[.int .i64 (gbdC l), u]) ∧ OwI W.heap.size w' u (gbdL l) ∧ Below W.heap.size W w')
    (HG0 : ∀ (v : Value) (l : List Int) (W : World), Below w.heap.size w W → Sl .i64 W v l → l.length ≤ 1048576 → Calls Tryd.prog 24 #[v] W fun e w' => ∃ u, e = .returned (.agg #[.int .i64 (gbC l), u]) ∧ OwI W.heap.size w' u (gbL l) ∧ Below W.heap.size W w')
    (HI0 : ∀ (v1 v2 v3 : Value) (l1 l2 l3 : List Int) (W : World), Below w.heap.size w W → Sl .i64 W v1 l1 → Sl .i64 W v2 l2 → Sl .i64 W v3 l3 → l1.length ≤ 1048576 → l2.length ≤ 1048576 → l3.length ≤ 1048576 → Calls Tryd.prog 26 #[v1, v2, v3] W fun e w' => e = .returned (.bool (wiB l1 l2 l3)) ∧ Below W.heap.size W w') :
    Calls Tryd.prog 4 #[.slice a bs.length cap] w fun e w' => e = .returned (.bool true) ∧ Below w.heap.size w w' := by
  have HX := hid HX0
  have HG := hid HG0
  have HI := hid HI0
  clear HX0 HG0 HI0
  by_cases hbig : 1048576 < bs.length
  · have hb' : (1048576 : Int) < bs.length := by omega
    clear hsl hbd
    go_enter Tryd.func4, Tryd.ntmps4
    go_wp2
    go_ret
    exact ⟨rfl, Below.refl _ _⟩
  · have hb' : (bs.length : Int) ≤ 1048576 := by omega
    have H1 := hid (drawGather_calls a cap bs w hsl hbd (by omega))
    have H2 := hid (fun W (hb : Below w.heap.size w W) => drawGatherBounds_calls a cap bs W (hsl.later hb) hbd (by omega))
    have HLw := hid (fun vl vb L B W (hb : Below w.heap.size w W) p1 p2 p3 p4 => lwBent_calls vl vb L B a cap bs 2 W p1 p2 (hsl.later hb) hbd (by omega) p3 p4 (by omega))
    clear hsl hbd
    go_enter Tryd.func4, Tryd.ntmps4
    go_wp2_with (first | (go_at_call 9; go_in) | fail)
    refine H1.out.mono ?_
    rintro e w1 ⟨gl, cl, n, ys, rfl, ho1, hn1, hn16, hb1⟩
    have Hn := hid hn1
    have HO1 := hid ho1.sl
    have HB1 := hid hb1
    clear ho1 hb1 hn1 H1
    go_wp2_with fail
    refine (H2.out _ HB1.out).mono ?_
    rintro e w2 ⟨ge, ce, m, es, rfl, ho2, hm1, hm16, hbl, hb2⟩
    have Hm := hid hm1
    have HL1 := hid (HO1.out.later hb2)
    have HO2 := hid ho2.sl
    have HF2 := hid ho2.fits
    have HB2 := hid (bthen HB1.out hb2)
    have HLm := hid (bdL_lim hbl)
    clear ho2 hb2 hm1 hbl H2 HO1 HB1
    go_wp2_with fail
    refine (HX.out _ es _ HB2.out HO2.out HF2.out (by have := Hm.out; omega)).mono ?_
    rintro e w3 ⟨u, rfl, ho3, hb3⟩
    have HK : Hid (G1 w w3.heap.size (gbdC es) (.slice (some ⟨gl, 0, none⟩) n cl) (.slice (some ⟨ge, 0, none⟩) m ce) u ys es (gbdL es) (w3.alloc (.cells #[.int .i64 (gbdC es), u] 35))) := by
      have ha := bmore (Below.refl w3.heap.size w3) (.cells #[.int .i64 (gbdC es), u] 35)
      exact ⟨Blk.new _ _ _, (HL1.out.later hb3).later ha, (HO2.out.later hb3).later ha, ho3.sl.later ha, bthen (bthen HB2.out hb3) ha⟩
    obtain ⟨au, cu, rfl, _⟩ := ho3.sl
    clear ho3 hb3 HL1 HO2 HB2 HF2 HX
    have HSG := hid (fun W (hW : Sl .i64 W (.slice (some ⟨ge, 0, none⟩) m ce) es) => specGatherBounds_calls _ es W hW (by have := Hm.out; omega))
    have hKd := HK.out.drew
    have Hzl := hid (gbdL_small es)
    go_wp2_with fail
    generalize w3.alloc (.cells #[.int .i64 (gbdC es), .slice au (gbdL es).length cu] 35) = w4 at *
    generalize w3.heap.size = R at *
    generalize hgc : gbdC es = gc at *
    generalize hgz : gbdL es = zs at *
    have E := hid (And.intro hgc hgz)
    clear hgc hgz
    refine wp_region_noPanic ?_
    refine wp_region_held_drew (S := fun W => G1 w R gc (.slice (some ⟨gl, 0, none⟩) n cl) (.slice (some ⟨ge, 0, none⟩) m ce) (.slice au zs.length cu) ys es zs W) (by kernel_rfl) ?_ (fun hHeld => ?_)
    · assumption
    (refine wpAnyH_take (i := 0) (v := ?_) rfl (by kernel_rfl) (by kernel_rfl) (by kernel_rfl) (fun _ _ _ h => h) (Or.inl ⟨by rfl, ?_⟩) hHeld ?_; rotate_left; (intro w hSw; (obtain ⟨m0, _⟩ := hSw.r.two; clear hSw); (go_simp <;> with_reducible rfl)); simp only [List.getElem_toArray, List.getElem_cons_zero, Act.put, List.setIfInBounds_toArray, List.set_cons_zero, List.set_cons_succ])
    (refine wpAnyH_take (i := 1) (v := ?_) rfl (by kernel_rfl) (by kernel_rfl) (by kernel_rfl) (fun _ _ _ h => h) (Or.inl ⟨by rfl, ?_⟩) hHeld ?_; rotate_left; (intro w hSw; (obtain ⟨m0, _⟩ := hSw.r.two; clear hSw); (go_simp <;> with_reducible rfl)); simp only [List.getElem_toArray, List.getElem_cons_zero, List.getElem_cons_succ, Act.put, List.setIfInBounds_toArray, List.set_cons_zero, List.set_cons_succ])
    (refine wpAnyH_take (i := 2) (v := ?_) rfl (by kernel_rfl) (by kernel_rfl) (by kernel_rfl) (fun _ _ _ h => h) (Or.inl ⟨by rfl, ?_⟩) hHeld ?_; rotate_left; (intro w hSw; (obtain ⟨m0, _⟩ := hSw.r.two; clear hSw); (go_simp <;> with_reducible rfl)); simp only [List.getElem_toArray, List.getElem_cons_zero, List.getElem_cons_succ, Act.put, List.setIfInBounds_toArray, List.set_cons_zero, List.set_cons_succ])
    (refine wpAnyH_ready (rs := [3]) (by kernel_rfl) (by simp) ?_; refine AllReadyH.cons rfl (fun K hK => ?_) AllReadyH.nil; go_simp; (refine (HSG.out _ hHeld.e).mono ?_; rintro e w9 ⟨u9, rfl, _, hb9⟩; have hK1 := hHeld.later hb9); refine hK.out _ _ ?_ (fun hHeld => ?_); (assumption); clear hK K; try dsimp only)
    (refine wpAnyH_take (i := 4) (v := ?_) rfl (by kernel_rfl) (by kernel_rfl) (by kernel_rfl) (fun _ _ _ h => h) (Or.inl ⟨by rfl, ?_⟩) hHeld ?_; rotate_left; (intro w hSw; (obtain ⟨m0, _⟩ := hSw.r.two; clear hSw); (go_simp <;> with_reducible rfl)); simp only [List.getElem_toArray, List.getElem_cons_zero, List.getElem_cons_succ, Act.put, List.setIfInBounds_toArray, List.set_cons_zero, List.set_cons_succ])
    (refine wpAnyH_take (i := 5) (v := ?_) rfl (by kernel_rfl) (by kernel_rfl) (by kernel_rfl) (fun _ _ _ h => h) (Or.inl ⟨by rfl, ?_⟩) hHeld ?_; rotate_left; (intro w hSw; (obtain ⟨m0, _⟩ := hSw.r.two; clear hSw); (go_simp <;> with_reducible rfl)); simp only [List.getElem_toArray, List.getElem_cons_zero, List.getElem_cons_succ, Act.put, List.setIfInBounds_toArray, List.set_cons_zero, List.set_cons_succ])
    refine wpAnyH_done (by kernel_rfl) ?_ _
    refine NoPanic.normal ?_
    have HK9 := hid hHeld
    clear hHeld hK1 hb9 HK hKd HSG
    obtain ⟨m0, m1, _, _⟩ := HK9.out.r.two
    by_cases hg0 : gc = 0
    · subst hg0
      by_cases hnm : n = m
      · have hnb : ((n : Int) != (m : Int)) = false := by rw [hnm]; simp
        have Hnm := hid hnm
        clear hnm
        go_wp2_with fail
        refine (HG.out _ ys _ HK9.out.b HK9.out.l (by have := Hn.out; omega)).mono ?_
        rintro e w5 ⟨u5, rfl, ho5, hb5⟩
        have HA5 := hid (GA.new ho5 (gbC ys))
        have HK5 := hid ((HK9.out.later hb5).later (bmore (Below.refl _ _) (.cells #[.int .i64 (gbC ys), u5] 35)))
        obtain ⟨a5, c5, rfl, _⟩ := ho5.sl
        clear ho5 hb5 HK9 m0 m1
        go_wp2_with fail
        refine (HLw.out _ _ ys es _ HK5.out.b HK5.out.l HK5.out.e HLm.out (by have := Hn.out; omega)).mono ?_
        rintro e w6 ⟨gt, ct, ts, rfl, ho6, ht6, hbt, hb6⟩
        have HK6 := hid (HK5.out.later hb6)
        have HA6 := hid (HA5.out.later hb6)
        have HT6 := hid ho6.sl
        have Hyes : Hid (ts.length = ys.length) := by show _ = _; have h1 := Hn.out; have h2 := Hm.out; have h3 := Hnm.out; omega
        have HLaw : Hid (gbC ys = 0 → gbC ts = 0 → wiB (gbL ys) (gbL ts) zs = true) := fun p q => by
          rw [← E.out.2]
          exact gathers_law E.out.1 (by have h1 := Hn.out; have h2 := Hm.out; have h3 := Hnm.out; omega) Hyes.out hbt p q
        have Hza := hid (gbL_small ys)
        have Hzb := hid (gbL_small ts)
        clear hb6 ho6 ht6 hbt HK5 HA5 HLw E HLm
        go_wp2_with fail
        refine (HG.out _ ts _ HK6.out.b HT6.out (by have := Hyes.out; have := Hn.out; omega)).mono ?_
        rintro e w7 ⟨u7, rfl, ho7, hb7⟩
        have HB8 := hid (GA.new ho7 (gbC ts))
        have HK8 := hid ((HK6.out.later hb7).later (bmore (Below.refl _ _) (.cells #[.int .i64 (gbC ts), u7] 35)))
        have HA8 := hid ((HA6.out.later hb7).later (bmore (Below.refl _ _) (.cells #[.int .i64 (gbC ts), u7] 35)))
        obtain ⟨a7, c7, rfl, _⟩ := ho7.sl
        have HSp := hid (fun W (hW : Sl .i64 W (.slice (some ⟨gl, 0, none⟩) n cl) ys) => specGatherBlock_calls _ ys W hW (by have := Hn.out; omega))
        clear ho7 hb7 HK6 HA6 HT6 Hyes
        generalize hca : gbC ys = ca at *
        generalize hza : gbL ys = za at *
        generalize hcb : gbC ts = cb at *
        generalize hzb : gbL ts = zb at *
        clear hca hza hcb hzb
        obtain ⟨m0, m1, _, _⟩ := HK8.out.r.two
        obtain ⟨x0, x1, _, _⟩ := HA8.out.r.two
        obtain ⟨y0, y1, _, _⟩ := HB8.out.r.two
        by_cases hc1 : ca = 0
        · subst hc1
          by_cases hc2 : cb = 0
          · subst hc2
            have HT := hid (HLaw.out rfl rfl)
            clear HLaw HSp HG
            have HIm := hid (HI.out _ _ _ za zb zs _ HK8.out.b HA8.out.u HB8.out.u HK8.out.u Hza.out Hzb.out Hzl.out)
            have HIs := hid (fun W (hb : Below (w7.alloc (.cells #[.int .i64 0, .slice a7 zb.length c7] 35)).heap.size (w7.alloc (.cells #[.int .i64 0, .slice a7 zb.length c7] 35)) W) => specIsWithin_calls _ _ _ za zb zs W (HA8.out.u.later hb) (HB8.out.u.later hb) (HK8.out.u.later hb) Hza.out Hzb.out Hzl.out)
            have HCs := hid (fun W (hb : Below (w7.alloc (.cells #[.int .i64 0, .slice a7 zb.length c7] 35)).heap.size (w7.alloc (.cells #[.int .i64 0, .slice a7 zb.length c7] 35)) W) => And.intro ((HK8.out.later hb).r.two.2.1) (And.intro ((HA8.out.later hb).r.two.2.1) ((HB8.out.later hb).r.two.2.1)))
            rw [HT.out] at HIm HIs
            have HBw := hid HK8.out.b
            clear HT HI HK8 HA8 HB8
            go_wp2_with fail
            refine HIm.out.mono ?_
            rintro e w9 ⟨rfl, hb9⟩
            obtain ⟨m1', x1', y1'⟩ := HCs.out _ hb9
            have HIz := hid (HIs.out _ hb9)
            have HBz := hid (bthen HBw.out hb9)
            clear hb9 m0 m1 x0 x1 y0 y1 HIs HIm HCs HBw
            go_wp2_with fail
            refine HIz.out.mono ?_
            rintro e w10 ⟨rfl, hb10⟩
            have HBy := hid (bthen HBz.out hb10)
            clear hb10 m1' x1' y1' HIz
            go_wp2
            go_ret
            exact ⟨rfl, HBy.out⟩
          · have hcb : (cb != 0) = true := by simpa using hc2
            clear hc2 HLaw HI HG
            go_wp2_with fail
            have hKd : (fun W => G1 w R 0 (.slice (some ⟨gl, 0, none⟩) n cl) (.slice (some ⟨ge, 0, none⟩) m ce) (.slice au zs.length cu) ys es zs W ∧ GA w5.heap.size 0 (.slice a5 za.length c5) za W) (w7.alloc (.cells #[.int .i64 cb, .slice a7 zb.length c7] 35)).drew := ⟨HK8.out.drew, ⟨HA8.out.r, HA8.out.u⟩⟩
            refine wp_region_noPanic ?_
            refine wp_region_held_drew (S := fun W => G1 w R 0 (.slice (some ⟨gl, 0, none⟩) n cl) (.slice (some ⟨ge, 0, none⟩) m ce) (.slice au zs.length cu) ys es zs W ∧ GA w5.heap.size 0 (.slice a5 za.length c5) za W) (by kernel_rfl) ?_ (fun hHeld => ?_)
            · assumption
            (refine wpAnyH_take (i := 0) (v := ?_) rfl (by kernel_rfl) (by kernel_rfl) (by kernel_rfl) (fun _ _ _ h => h) (Or.inl ⟨by rfl, ?_⟩) hHeld ?_; rotate_left; (intro w hSw; (obtain ⟨m0, _⟩ := hSw.2.r.two; clear hSw); (go_simp <;> with_reducible rfl)); simp only [List.getElem_toArray, List.getElem_cons_zero, Act.put, List.setIfInBounds_toArray, List.set_cons_zero, List.set_cons_succ])
            (refine wpAnyH_take (i := 1) (v := ?_) rfl (by kernel_rfl) (by kernel_rfl) (by kernel_rfl) (fun _ _ _ h => h) (Or.inl ⟨by rfl, ?_⟩) hHeld ?_; rotate_left; (intro w hSw; (obtain ⟨m0, _⟩ := hSw.2.r.two; clear hSw); (go_simp <;> with_reducible rfl)); simp only [List.getElem_toArray, List.getElem_cons_zero, List.getElem_cons_succ, Act.put, List.setIfInBounds_toArray, List.set_cons_zero, List.set_cons_succ])
            (refine wpAnyH_take (i := 2) (v := ?_) rfl (by kernel_rfl) (by kernel_rfl) (by kernel_rfl) (fun _ _ _ h => h) (Or.inl ⟨by rfl, ?_⟩) hHeld ?_; rotate_left; (intro w hSw; (obtain ⟨m0, _⟩ := hSw.2.r.two; clear hSw); (go_simp <;> with_reducible rfl)); simp only [List.getElem_toArray, List.getElem_cons_zero, List.getElem_cons_succ, Act.put, List.setIfInBounds_toArray, List.set_cons_zero, List.set_cons_succ])
            (refine wpAnyH_ready (rs := [3]) (by kernel_rfl) (by simp) ?_; refine AllReadyH.cons rfl (fun K hK => ?_) AllReadyH.nil; go_simp; (refine (HSp.out _ hHeld.1.l).mono ?_; rintro e w9 ⟨u9, rfl, _, hb9⟩; have hK1 := And.intro (hHeld.1.later hb9) (hHeld.2.later hb9)); refine hK.out _ _ ?_ (fun hHeld => ?_); (assumption); clear hK K; try dsimp only)
            (refine wpAnyH_take (i := 4) (v := ?_) rfl (by kernel_rfl) (by kernel_rfl) (by kernel_rfl) (fun _ _ _ h => h) (Or.inl ⟨by rfl, ?_⟩) hHeld ?_; rotate_left; (intro w hSw; (obtain ⟨m0, _⟩ := hSw.2.r.two; clear hSw); (go_simp <;> with_reducible rfl)); simp only [List.getElem_toArray, List.getElem_cons_zero, List.getElem_cons_succ, Act.put, List.setIfInBounds_toArray, List.set_cons_zero, List.set_cons_succ])
            (refine wpAnyH_take (i := 5) (v := ?_) rfl (by kernel_rfl) (by kernel_rfl) (by kernel_rfl) (fun _ _ _ h => h) (Or.inl ⟨by rfl, ?_⟩) hHeld ?_; rotate_left; (intro w hSw; (obtain ⟨m0, _⟩ := hSw.2.r.two; clear hSw); (go_simp <;> with_reducible rfl)); simp only [List.getElem_toArray, List.getElem_cons_zero, List.getElem_cons_succ, Act.put, List.setIfInBounds_toArray, List.set_cons_zero, List.set_cons_succ])
            (refine wpAnyH_take (i := 6) (v := ?_) rfl (by kernel_rfl) (by kernel_rfl) (by kernel_rfl) (fun _ _ _ h => h) (Or.inl ⟨by rfl, ?_⟩) hHeld ?_; rotate_left; (intro w hSw; (obtain ⟨m0, _⟩ := hSw.2.r.two; clear hSw); (go_simp <;> with_reducible rfl)); simp only [List.getElem_toArray, List.getElem_cons_zero, List.getElem_cons_succ, Act.put, List.setIfInBounds_toArray, List.set_cons_zero, List.set_cons_succ])
            refine wpAnyH_done (by kernel_rfl) ?_ _
            refine NoPanic.normal ?_
            have HKz := hid hHeld.1.b
            clear hHeld hKd HSp
            go_wp2
            go_ret
            exact ⟨by simp, HKz.out⟩
        · have hca : (ca != 0) = true := by simpa using hc1
          clear hc1 HLaw HI HG
          go_wp2_with fail
          have hKd : (fun W => G1 w R 0 (.slice (some ⟨gl, 0, none⟩) n cl) (.slice (some ⟨ge, 0, none⟩) m ce) (.slice au zs.length cu) ys es zs W ∧ GA w5.heap.size ca (.slice a5 za.length c5) za W) (w7.alloc (.cells #[.int .i64 cb, .slice a7 zb.length c7] 35)).drew := ⟨HK8.out.drew, ⟨HA8.out.r, HA8.out.u⟩⟩
          refine wp_region_noPanic ?_
          refine wp_region_held_drew (S := fun W => G1 w R 0 (.slice (some ⟨gl, 0, none⟩) n cl) (.slice (some ⟨ge, 0, none⟩) m ce) (.slice au zs.length cu) ys es zs W ∧ GA w5.heap.size ca (.slice a5 za.length c5) za W) (by kernel_rfl) ?_ (fun hHeld => ?_)
          · assumption
          (refine wpAnyH_take (i := 0) (v := ?_) rfl (by kernel_rfl) (by kernel_rfl) (by kernel_rfl) (fun _ _ _ h => h) (Or.inl ⟨by rfl, ?_⟩) hHeld ?_; rotate_left; (intro w hSw; (obtain ⟨m0, _⟩ := hSw.2.r.two; clear hSw); (go_simp <;> with_reducible rfl)); simp only [List.getElem_toArray, List.getElem_cons_zero, Act.put, List.setIfInBounds_toArray, List.set_cons_zero, List.set_cons_succ])
          (refine wpAnyH_take (i := 1) (v := ?_) rfl (by kernel_rfl) (by kernel_rfl) (by kernel_rfl) (fun _ _ _ h => h) (Or.inl ⟨by rfl, ?_⟩) hHeld ?_; rotate_left; (intro w hSw; (obtain ⟨m0, _⟩ := hSw.2.r.two; clear hSw); (go_simp <;> with_reducible rfl)); simp only [List.getElem_toArray, List.getElem_cons_zero, List.getElem_cons_succ, Act.put, List.setIfInBounds_toArray, List.set_cons_zero, List.set_cons_succ])
          (refine wpAnyH_take (i := 2) (v := ?_) rfl (by kernel_rfl) (by kernel_rfl) (by kernel_rfl) (fun _ _ _ h => h) (Or.inl ⟨by rfl, ?_⟩) hHeld ?_; rotate_left; (intro w hSw; (obtain ⟨m0, _⟩ := hSw.2.r.two; clear hSw); (go_simp <;> with_reducible rfl)); simp only [List.getElem_toArray, List.getElem_cons_zero, List.getElem_cons_succ, Act.put, List.setIfInBounds_toArray, List.set_cons_zero, List.set_cons_succ])
          (refine wpAnyH_ready (rs := [3]) (by kernel_rfl) (by simp) ?_; refine AllReadyH.cons rfl (fun K hK => ?_) AllReadyH.nil; go_simp; (refine (HSp.out _ hHeld.1.l).mono ?_; rintro e w9 ⟨u9, rfl, _, hb9⟩; have hK1 := And.intro (hHeld.1.later hb9) (hHeld.2.later hb9)); refine hK.out _ _ ?_ (fun hHeld => ?_); (assumption); clear hK K; try dsimp only)
          (refine wpAnyH_take (i := 4) (v := ?_) rfl (by kernel_rfl) (by kernel_rfl) (by kernel_rfl) (fun _ _ _ h => h) (Or.inl ⟨by rfl, ?_⟩) hHeld ?_; rotate_left; (intro w hSw; (obtain ⟨m0, _⟩ := hSw.2.r.two; clear hSw); (go_simp <;> with_reducible rfl)); simp only [List.getElem_toArray, List.getElem_cons_zero, List.getElem_cons_succ, Act.put, List.setIfInBounds_toArray, List.set_cons_zero, List.set_cons_succ])
          (refine wpAnyH_take (i := 5) (v := ?_) rfl (by kernel_rfl) (by kernel_rfl) (by kernel_rfl) (fun _ _ _ h => h) (Or.inl ⟨by rfl, ?_⟩) hHeld ?_; rotate_left; (intro w hSw; (obtain ⟨m0, _⟩ := hSw.2.r.two; clear hSw); (go_simp <;> with_reducible rfl)); simp only [List.getElem_toArray, List.getElem_cons_zero, List.getElem_cons_succ, Act.put, List.setIfInBounds_toArray, List.set_cons_zero, List.set_cons_succ])
          (refine wpAnyH_take (i := 6) (v := ?_) rfl (by kernel_rfl) (by kernel_rfl) (by kernel_rfl) (fun _ _ _ h => h) (Or.inl ⟨by rfl, ?_⟩) hHeld ?_; rotate_left; (intro w hSw; (obtain ⟨m0, _⟩ := hSw.2.r.two; clear hSw); (go_simp <;> with_reducible rfl)); simp only [List.getElem_toArray, List.getElem_cons_zero, List.getElem_cons_succ, Act.put, List.setIfInBounds_toArray, List.set_cons_zero, List.set_cons_succ])
          refine wpAnyH_done (by kernel_rfl) ?_ _
          refine NoPanic.normal ?_
          have HKz := hid hHeld.1.b
          clear hHeld hKd HSp
          go_wp2
          go_ret
          exact ⟨by simp, HKz.out⟩
      · have hnb : ((n : Int) != (m : Int)) = true := by simp; omega
        clear hnm E HG HI HLw
        go_wp2
        go_ret
        exact ⟨rfl, HK9.out.b⟩
    · have hgb : (gc != 0) = true := by simpa using hg0
      clear hg0 E HG HI HLw
      go_wp2
      go_ret
      exact ⟨rfl, HK9.out.b⟩
end Go.Proofs.YtbakmphopgkpmaaDoor.GtW
