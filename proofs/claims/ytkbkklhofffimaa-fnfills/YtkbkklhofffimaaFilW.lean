/- The walk through FnFills. Condition: the program's contracts of FillOf, FillBound, NormOf, wherever nothing that was there before has turned. -/
import Derived.Test.YtkbkklhofffimaaShaS
import Derived.Test.YtkbkklhofffimaaShaD
import Derived.Test.YtkbkklhofffimaaNorm
import Derived.Test.YtkbkklhofffimaaBlk
import Derived.Deep.RegionHeld3
import Derived.Deep.DrawnRows
import Derived.Deep.DeepCutAuto
namespace Go.Proofs.Ytkbkklhofffimaa.FilW
open Go.ChangeShapes Go.WideShapes Go.ChangeAt Go.RowKit Go.Proofs.Ytkbkklhofffimaa.Num Go.Proofs.Ytkbkklhofffimaa.Sli Go.Proofs.Ytkbkklhofffimaa.Div Go.Proofs.Ytkbkklhofffimaa.App Go.Proofs.Ytkbkklhofffimaa.IntL Go.Proofs.Ytkbkklhofffimaa.Blk Go.Proofs.Ytkbkklhofffimaa.Norm Go.Proofs.Ytkbkklhofffimaa.HalM Go.Proofs.Ytkbkklhofffimaa.PulM Go.Proofs.Ytkbkklhofffimaa.ShaM Go.Proofs.Ytkbkklhofffimaa.ShaS Go.Proofs.Ytkbkklhofffimaa.ShaD

theorem fieldI1 (c a : Value) (w : World) : (Instr.field 31 (.agg #[c, a]) 1).run Try.prog w = .ok a w := by kernel_rfl
theorem fieldL0 (c a : Value) (w : World) : (Instr.field 28 (.agg #[c, a]) 0).run Try.prog w = .ok c w := by kernel_rfl
attribute [local go_sem] fieldI1 fieldL0
theorem lwAbs_calls (v : Int) (w : World) (h1 : -4611686018427387904 ≤ v) (h2 : v ≤ 4611686018427387904) :
    Calls Try.prog 13 #[.int .i64 v] w fun e w' => e = .returned (.int .i64 (absV v)) ∧ w' = w := by
  by_cases hm : v < 0
  · have H : Hid (absV v = -v) := if_pos hm
    go_enter Try.func13, Try.ntmps13
    go_wp2
    go_ret
    exact ⟨ret_int H.out.symm, rfl⟩
  · have H : Hid (absV v = v) := if_neg hm
    go_enter Try.func13, Try.ntmps13
    go_wp2
    go_ret
    exact ⟨ret_int H.out.symm, rfl⟩
/-- An answer with a list, and one with a number. -/
structure FF (w : World) (F B : Nat) (fc : Int) (u : Value) (l : List Int) (bc bv : Int) (W : World) : Prop where
  f : Blk W F #[.int .i64 fc, u] 28
  l : Sl .i64 W u l
  c : Blk W B #[.int .i64 bc, .int .i64 bv] 31
  b : Below w.heap.size w W
theorem FF.later {w W W' : World} {F B : Nat} {fc : Int} {u : Value} {l : List Int} {bc bv : Int} (k : FF w F B fc u l bc bv W) (hb : Below W.heap.size W W') : FF w F B fc u l bc bv W' := ⟨k.f.later hb, k.l.later hb, k.c.later hb, bthen k.b hb⟩
/-- And two numbers of it. -/
structure FE (w : World) (F B : Nat) (u : Value) (l : List Int) (bc bv : Int) (b off i z : Nat) (x y : Int) (W : World) : Prop where
  k : FF w F B 0 u l bc bv W
  e1 : W.cell? ⟨b, off + i, none⟩ = some (.int .i64 x)
  e0 : W.cell? ⟨b, off + z, none⟩ = some (.int .i64 y)
theorem FE.later {w W W' : World} {F B : Nat} {u : Value} {l : List Int} {bc bv : Int} {b off i z : Nat} {x y : Int} (h : FE w F B u l bc bv b off i z x y W) (hb : Below W.heap.size W W') : FE w F B u l bc bv b off i z x y W' :=
  ⟨h.k.later hb, (hb.cell (p := ⟨b, off + i, none⟩) (lt_of_cell h.e1)).trans h.e1, (hb.cell (p := ⟨b, off + z, none⟩) (lt_of_cell h.e0)).trans h.e0⟩
set_option maxRecDepth 100000 in
set_option maxHeartbeats 8000000 in
theorem fnFills_calls (a0 : Option Addr) (cap : Nat) (bs : List Int) (w : World) (hsl : Sl .u8 w (.slice a0 bs.length cap) bs) (hbd : ∀ x ∈ bs, 0 ≤ x ∧ x ≤ 255)
    (hF : ∀ d g W, Below w.heap.size w W → Calls Try.prog 8 #[.int .i64 d, .int .i64 g] W fun e w' => ∃ u, e = .returned (.agg #[.int .i64 (flC d g), u]) ∧ OwI W.heap.size w' u (flL d g) ∧ Below W.heap.size W w')
    (hB : ∀ n g W, Below w.heap.size w W → Calls Try.prog 10 #[.int .i64 n, .int .i64 g] W fun e w' => e = .returned (.agg #[.int .i64 (fbC n g), .int .i64 (fbV n g)]) ∧ Below W.heap.size W w')
    (hN : ∀ v xs W, Below w.heap.size w W → Sl .i64 W v xs → Calls Try.prog 14 #[v] W fun e w' => e = .returned (.agg #[.int .i64 (nmC xs), .int .i64 (nmV xs)]) ∧ Below W.heap.size W w') :
    Calls Try.prog 3 #[.slice a0 bs.length cap] w fun e w' => e = .returned (.bool true) ∧ Below w.heap.size w w' := by
  by_cases hbig : 1048576 < bs.length
  · have hb' : (1048576 : Int) < bs.length := by omega
    clear hsl hbd hF hB hN
    go_enter Try.func3, Try.ntmps3
    go_wp2
    go_ret
    exact ⟨rfl, Below.refl _ _⟩
  · have hb' : (bs.length : Int) ≤ 1048576 := by omega
    have H1 := hid (drawFillOf_calls a0 cap bs w hsl hbd (by omega))
    have H2 := hid (fun W (hb : Below w.heap.size w W) => drawFillBound_calls a0 cap bs W (hsl.later hb) hbd (by omega))
    have HF := hid hF
    have HBd := hid hB
    have HN := hid hN
    clear hsl hbd hF hB hN
    go_enter Try.func3, Try.ntmps3
    go_wp2_with (first | (go_at_call 6; go_in) | fail)
    refine H1.out.mono ?_
    rintro e w1 ⟨d, g, rfl, hb1⟩
    have HB1 := hid hb1
    clear hb1 H1
    go_wp2_with fail
    refine (HF.out d g _ HB1.out).mono ?_
    rintro e w2 ⟨u, rfl, hO, hb2⟩
    obtain ⟨au, cu, rfl, _⟩ := hO.sl
    have hbq := bmore hb2 (.cells #[.int .i64 (flC d g), .slice au (flL d g).length cu] 28)
    have HB2 := hid (bthen HB1.out hbq)
    have HS2 := hid (hO.sl.later (bmore (Below.refl _ _) (.cells #[.int .i64 (flC d g), .slice au (flL d g).length cu] 28)))
    have HK2 := hid (Blk.new w2 #[.int .i64 (flC d g), .slice au (flL d g).length cu] 28)
    clear hb2 hbq HB1 hO HF
    go_wp2_with fail
    refine (H2.out _ HB2.out).mono ?_
    rintro e w3 ⟨n, o, rfl, hb3⟩
    have HB3 := hid (bthen HB2.out hb3)
    have HS3 := hid (HS2.out.later hb3)
    have HK3 := hid (HK2.out.later hb3)
    clear hb3 HB2 HS2 HK2 H2
    go_wp2_with fail
    refine (HBd.out n o _ HB3.out).mono ?_
    rintro e w4 ⟨rfl, hb4⟩
    have hbq := bmore hb4 (.cells #[.int .i64 (fbC n o), .int .i64 (fbV n o)] 31)
    have HK : Hid (FF w w2.heap.size w4.heap.size (flC d g) (.slice au (flL d g).length cu) (flL d g) (fbC n o) (fbV n o) (w4.alloc (.cells #[.int .i64 (fbC n o), .int .i64 (fbV n o)] 31))) := ⟨HK3.out.later hbq, HS3.out.later hbq, Blk.new w4 _ _, bthen HB3.out hbq⟩
    clear hb4 hbq HB3 HS3 HK3 HBd
    go_wp2_with fail
    generalize w4.alloc (.cells #[.int .i64 (fbC n o), .int .i64 (fbV n o)] 31) = w5 at *
    generalize w2.heap.size = F at *
    generalize w4.heap.size = B at *
    have HSf := hid (fun W => specFillOf_calls d g W)
    have HSb := hid (fun W => specFillBound_calls n o W)
    have HL := hid (@fill_law d g)
    have HLn : Hid ((flL d g).length ≤ 4) := by
      show _ ≤ _
      by_cases q : flC d g = 0
      · have := (fill_law q).1
        have := (fl_yes q).2.1
        omega
      · unfold flL; rw [if_neg (fun e => q (if_pos e))]; simp
    have HGd := hid (@fl_yes d g)
    generalize flL d g = l at *
    generalize flC d g = fc at *
    generalize fbC n o = bc at *
    generalize fbV n o = bv at *
    have hl4 := HLn.out
    have hKd0 := HK.out.later (Below.refl _ _).drew
    refine wp_region_noPanic ?_
    refine wp_region_held_drew (S := fun W => FF w F B fc (.slice au l.length cu) l bc bv W) (by kernel_rfl) ?_ (fun hHeld => ?_)
    · first | exact hK2 | exact hHeld | exact hKd0
    (refine wpAnyH_take (i := 0) (v := ?_) rfl (by kernel_rfl) (by kernel_rfl) (by kernel_rfl) (fun _ _ _ h => h) (Or.inl ⟨by rfl, ?_⟩) hHeld ?_; rotate_left; (intro w hSw; (obtain ⟨m0, m1, _⟩ := hSw.f.two; obtain ⟨n0, n1, _⟩ := hSw.c.two; clear hSw); (go_simp <;> with_reducible rfl)); simp only [List.getElem_toArray, List.getElem_cons_zero, Act.put, List.setIfInBounds_toArray, List.set_cons_zero, List.set_cons_succ])
    (refine wpAnyH_take (i := 1) (v := ?_) rfl (by kernel_rfl) (by kernel_rfl) (by kernel_rfl) (fun _ _ _ h => h) (Or.inl ⟨by rfl, ?_⟩) hHeld ?_; rotate_left; (intro w hSw; (obtain ⟨m0, m1, _⟩ := hSw.f.two; obtain ⟨n0, n1, _⟩ := hSw.c.two; clear hSw); (go_simp <;> with_reducible rfl)); simp only [List.getElem_toArray, List.getElem_cons_zero, List.getElem_cons_succ, Act.put, List.setIfInBounds_toArray, List.set_cons_zero, List.set_cons_succ])
    (refine wpAnyH_take (i := 2) (v := ?_) rfl (by kernel_rfl) (by kernel_rfl) (by kernel_rfl) (fun _ _ _ h => h) (Or.inl ⟨by rfl, ?_⟩) hHeld ?_; rotate_left; (intro w hSw; (obtain ⟨m0, m1, _⟩ := hSw.f.two; obtain ⟨n0, n1, _⟩ := hSw.c.two; clear hSw); (go_simp <;> with_reducible rfl)); simp only [List.getElem_toArray, List.getElem_cons_zero, List.getElem_cons_succ, Act.put, List.setIfInBounds_toArray, List.set_cons_zero, List.set_cons_succ])
    (refine wpAnyH_take (i := 3) (v := ?_) rfl (by kernel_rfl) (by kernel_rfl) (by kernel_rfl) (fun _ _ _ h => h) (Or.inl ⟨by rfl, ?_⟩) hHeld ?_; rotate_left; (intro w hSw; (obtain ⟨m0, m1, _⟩ := hSw.f.two; obtain ⟨n0, n1, _⟩ := hSw.c.two; clear hSw); (go_simp <;> with_reducible rfl)); simp only [List.getElem_toArray, List.getElem_cons_zero, List.getElem_cons_succ, Act.put, List.setIfInBounds_toArray, List.set_cons_zero, List.set_cons_succ])
    (refine wpAnyH_ready (rs := [4]) (by kernel_rfl) (by simp) ?_; refine AllReadyH.cons rfl (fun K hK => ?_) AllReadyH.nil; go_simp; (refine (HSf.out _).mono ?_; rintro e w9 ⟨u9, rfl, ho9, hb9⟩; obtain ⟨a9, c9, rfl, _⟩ := ho9.sl; have hK2 := hHeld.later hb9); refine hK.out _ _ ?_ (fun hHeld => ?_); (first | exact hK2 | exact hHeld | exact hKd0); clear hK K; try dsimp only)
    (refine wpAnyH_take (i := 5) (v := ?_) rfl (by kernel_rfl) (by kernel_rfl) (by kernel_rfl) (fun _ _ _ h => h) (Or.inl ⟨by rfl, ?_⟩) hHeld ?_; rotate_left; (intro w hSw; (obtain ⟨m0, m1, _⟩ := hSw.f.two; obtain ⟨n0, n1, _⟩ := hSw.c.two; clear hSw); (go_simp <;> with_reducible rfl)); simp only [List.getElem_toArray, List.getElem_cons_zero, List.getElem_cons_succ, Act.put, List.setIfInBounds_toArray, List.set_cons_zero, List.set_cons_succ])
    (refine wpAnyH_take (i := 6) (v := ?_) rfl (by kernel_rfl) (by kernel_rfl) (by kernel_rfl) (fun _ _ _ h => h) (Or.inl ⟨by rfl, ?_⟩) hHeld ?_; rotate_left; (intro w hSw; (obtain ⟨m0, m1, _⟩ := hSw.f.two; obtain ⟨n0, n1, _⟩ := hSw.c.two; clear hSw); (go_simp <;> with_reducible rfl)); simp only [List.getElem_toArray, List.getElem_cons_zero, List.getElem_cons_succ, Act.put, List.setIfInBounds_toArray, List.set_cons_zero, List.set_cons_succ])
    (refine wpAnyH_take (i := 7) (v := ?_) rfl (by kernel_rfl) (by kernel_rfl) (by kernel_rfl) (fun _ _ _ h => h) (Or.inl ⟨by rfl, ?_⟩) hHeld ?_; rotate_left; (intro w hSw; (obtain ⟨m0, m1, _⟩ := hSw.f.two; obtain ⟨n0, n1, _⟩ := hSw.c.two; clear hSw); (go_simp <;> with_reducible rfl)); simp only [List.getElem_toArray, List.getElem_cons_zero, List.getElem_cons_succ, Act.put, List.setIfInBounds_toArray, List.set_cons_zero, List.set_cons_succ])
    first | (refine wpAnyH_take (i := 8) (v := ?_) rfl (by kernel_rfl) (by kernel_rfl) (by kernel_rfl) (fun _ _ _ h => h) (Or.inl ⟨by rfl, ?_⟩) hHeld ?_; rotate_left; (intro w hSw; (obtain ⟨m0, m1, _⟩ := hSw.f.two; obtain ⟨n0, n1, _⟩ := hSw.c.two; clear hSw); (go_simp <;> with_reducible rfl)); simp only [List.getElem_toArray, List.getElem_cons_zero, List.getElem_cons_succ, Act.put, List.setIfInBounds_toArray, List.set_cons_zero, List.set_cons_succ]) | (refine wpAnyH_take (i := 8) (v := undef) rfl (by kernel_rfl) (by kernel_rfl) (by kernel_rfl) (fun _ _ _ h => h) (Or.inr ⟨by rfl, rfl⟩) hHeld ?_; simp only [List.getElem_toArray, List.getElem_cons_zero, List.getElem_cons_succ, Act.put, List.setIfInBounds_toArray, List.set_cons_zero, List.set_cons_succ])
    first | (refine wpAnyH_take (i := 9) (v := ?_) rfl (by kernel_rfl) (by kernel_rfl) (by kernel_rfl) (fun _ _ _ h => h) (Or.inl ⟨by rfl, ?_⟩) hHeld ?_; rotate_left; (intro w hSw; (obtain ⟨m0, m1, _⟩ := hSw.f.two; obtain ⟨n0, n1, _⟩ := hSw.c.two; clear hSw); (go_simp <;> with_reducible rfl)); simp only [List.getElem_toArray, List.getElem_cons_zero, List.getElem_cons_succ, Act.put, List.setIfInBounds_toArray, List.set_cons_zero, List.set_cons_succ]) | (refine wpAnyH_take (i := 9) (v := undef) rfl (by kernel_rfl) (by kernel_rfl) (by kernel_rfl) (fun _ _ _ h => h) (Or.inr ⟨by rfl, rfl⟩) hHeld ?_; simp only [List.getElem_toArray, List.getElem_cons_zero, List.getElem_cons_succ, Act.put, List.setIfInBounds_toArray, List.set_cons_zero, List.set_cons_succ])
    first | (refine wpAnyH_take (i := 10) (v := ?_) rfl (by kernel_rfl) (by kernel_rfl) (by kernel_rfl) (fun _ _ _ h => h) (Or.inl ⟨by rfl, ?_⟩) hHeld ?_; rotate_left; (intro w hSw; (obtain ⟨m0, m1, _⟩ := hSw.f.two; obtain ⟨n0, n1, _⟩ := hSw.c.two; clear hSw); (go_simp <;> with_reducible rfl)); simp only [List.getElem_toArray, List.getElem_cons_zero, List.getElem_cons_succ, Act.put, List.setIfInBounds_toArray, List.set_cons_zero, List.set_cons_succ]) | (refine wpAnyH_take (i := 10) (v := undef) rfl (by kernel_rfl) (by kernel_rfl) (by kernel_rfl) (fun _ _ _ h => h) (Or.inr ⟨by rfl, rfl⟩) hHeld ?_; simp only [List.getElem_toArray, List.getElem_cons_zero, List.getElem_cons_succ, Act.put, List.setIfInBounds_toArray, List.set_cons_zero, List.set_cons_succ])
    first | (refine wpAnyH_take (i := 11) (v := undef) rfl (by kernel_rfl) (by kernel_rfl) (by kernel_rfl) (fun _ _ _ h => h) (Or.inr ⟨by rfl, rfl⟩) hHeld ?_; simp only [List.getElem_toArray, List.getElem_cons_zero, List.getElem_cons_succ, Act.put, List.setIfInBounds_toArray, List.set_cons_zero, List.set_cons_succ]) | (refine wpAnyH_ready (rs := [11]) (by kernel_rfl) (by simp) ?_; refine AllReadyH.cons rfl (fun K hK => ?_) AllReadyH.nil; go_simp; (refine (HSb.out _).mono ?_; rintro e w10 ⟨rfl, hb10⟩; have hK2 := hHeld.later hb10); refine hK.out _ _ ?_ (fun hHeld => ?_); (first | exact hK2 | exact hHeld | exact hKd0); clear hK K; try dsimp only)
    first | (refine wpAnyH_take (i := 12) (v := ?_) rfl (by kernel_rfl) (by kernel_rfl) (by kernel_rfl) (fun _ _ _ h => h) (Or.inl ⟨by rfl, ?_⟩) hHeld ?_; rotate_left; (intro w hSw; (obtain ⟨m0, m1, _⟩ := hSw.f.two; obtain ⟨n0, n1, _⟩ := hSw.c.two; clear hSw); (go_simp <;> with_reducible rfl)); simp only [List.getElem_toArray, List.getElem_cons_zero, List.getElem_cons_succ, Act.put, List.setIfInBounds_toArray, List.set_cons_zero, List.set_cons_succ]) | (refine wpAnyH_take (i := 12) (v := undef) rfl (by kernel_rfl) (by kernel_rfl) (by kernel_rfl) (fun _ _ _ h => h) (Or.inr ⟨by rfl, rfl⟩) hHeld ?_; simp only [List.getElem_toArray, List.getElem_cons_zero, List.getElem_cons_succ, Act.put, List.setIfInBounds_toArray, List.set_cons_zero, List.set_cons_succ])
    (refine wpAnyH_take (i := 13) (v := ?_) rfl (by kernel_rfl) (by kernel_rfl) (by kernel_rfl) (fun _ _ _ h => h) (Or.inl ⟨by rfl, ?_⟩) hHeld ?_; rotate_left; (intro w hSw; (obtain ⟨m0, m1, _⟩ := hSw.f.two; obtain ⟨n0, n1, _⟩ := hSw.c.two; clear hSw); (go_simp <;> with_reducible rfl)); simp only [List.getElem_toArray, List.getElem_cons_zero, List.getElem_cons_succ, Act.put, List.setIfInBounds_toArray, List.set_cons_zero, List.set_cons_succ])
    refine wpAnyH_done (by kernel_rfl) ?_ _
    refine NoPanic.normal ?_
    have HK9 := hid hHeld
    clear hHeld HK hKd0 HSf HSb
    obtain ⟨m0, m1, _⟩ := HK9.out.f.two
    by_cases hz : fc = 0
    · subst hz
      obtain ⟨l1, l2, l3, l4, l5⟩ := HL.out rfl
      obtain ⟨g1, g2, g3, g4, -⟩ := HGd.out rfl
      have HL4 := hid l4
      have HL5 := hid l5
      have HD1 := hid l1
      have hnv : nmV l = g := by
        unfold nmV
        rw [if_neg (by omega), if_pos l3, l2]
      have HNv := hid hnv
      clear HL HGd l1 l2 l3 l4 l5 hnv HLn
      go_wp2_with fail
      go_loopw [9] (fun iv wr => ∃ i : Nat, 1 ≤ i ∧ (i ≤ l.length ∨ i = 1) ∧ iv = .int .i64 (i : Int) ∧ Hid (FF w F B 0 (.slice au l.length cu) l bc bv wr)) (fun iv _ => l.length - (intOf iv).toNat)
      case atStart => exact ⟨1, by omega, Or.inr rfl, rfl, HK9.out⟩
      case round =>
        obtain ⟨i, hi1, hi, rfl, hK⟩ := hrel
        clear HK9 m0 m1
        obtain ⟨m0, m1, _⟩ := hK.out.f.two
        by_cases hlt : i < l.length
        · have hne : l ≠ [] := by intro e; rw [e] at hlt; simp at hlt
          obtain ⟨au', cu', hv, hc⟩ := hK.out.l
          cases hv
          obtain ⟨b, off, rfl, hbl, hcell⟩ := hc hne
          obtain ⟨z, hzz⟩ : ∃ z, i - 1 = z := ⟨_, rfl⟩
          have hx := HL4.out i hlt
          have hy := HL4.out z (by omega)
          have h5 := HL5.out i hlt hi1
          rw [hzz] at h5
          have HE : Hid (FE w F B (.slice (some ⟨b, off, none⟩) l.length cu) l bc bv b off i z (l.getD i 0) (l.getD z 0) wr) := ⟨hK.out, hcell i hlt, hcell z (by omega)⟩
          have hjI : (i : Int) < (l.length : Int) := by omega
          have hzI : (z : Int) < (l.length : Int) := by omega
          have kz : IntKind.i64.wrap ((i : Int) - 1) = (z : Int) := by rw [wrapk_of (by omega) (by omega)]; omega
          clear hc hcell hne hzz HL4 HL5
          generalize l.getD i 0 = x at *
          generalize l.getD z 0 = y at *
          have HA := hid (fun W => lwAbs_calls x W (by omega) (by omega))
          have HAy := hid (fun W => lwAbs_calls y W (by omega) (by omega))
          have bx := absV_bd x
          have by' := absV_bd y
          have gt1 : decide (absV y < absV x) = false := decide_eq_false (by omega)
          have k2 : IntKind.i64.wrap (absV y - absV x) = absV y - absV x := wrapk_of (by omega) (by omega)
          have gt2 : decide (1 < absV y - absV x) = false := decide_eq_false (by omega)
          clear h5 bx by' hx hy
          go_upto_region 14 with fail
          clear m0 m1
          have hKd0 := HE.out.later (Below.refl _ _).drew
          refine wp_region_noPanic ?_
          refine wp_region_held_drew (S := fun W => FE w F B (.slice (some ⟨b, off, none⟩) l.length cu) l bc bv b off i z x y W) (by kernel_rfl) ?_ (fun hHeld => ?_)
          · first | exact hHeld | exact hKd0
          (refine wpAnyH_take (i := 0) (v := ?_) rfl (by kernel_rfl) (by kernel_rfl) (by kernel_rfl) (fun _ _ _ h => h) (Or.inl ⟨by rfl, ?_⟩) hHeld ?_; rotate_left; (intro w hSw; (obtain ⟨m0, m1, _⟩ := hSw.k.f.two; have c1 := hSw.e1; have c0 := hSw.e0; clear hSw); (go_simp <;> with_reducible rfl)); simp only [List.getElem_toArray, List.getElem_cons_zero, Act.put, List.setIfInBounds_toArray, List.set_cons_zero, List.set_cons_succ])
          (refine wpAnyH_take (i := 1) (v := ?_) rfl (by kernel_rfl) (by kernel_rfl) (by kernel_rfl) (fun _ _ _ h => h) (Or.inl ⟨by rfl, ?_⟩) hHeld ?_; rotate_left; (intro w hSw; (obtain ⟨m0, m1, _⟩ := hSw.k.f.two; have c1 := hSw.e1; have c0 := hSw.e0; clear hSw); (go_simp <;> with_reducible rfl)); simp only [List.getElem_toArray, List.getElem_cons_zero, List.getElem_cons_succ, Act.put, List.setIfInBounds_toArray, List.set_cons_zero, List.set_cons_succ])
          (refine wpAnyH_take (i := 2) (v := ?_) rfl (by kernel_rfl) (by kernel_rfl) (by kernel_rfl) (fun _ _ _ h => h) (Or.inl ⟨by rfl, ?_⟩) hHeld ?_; rotate_left; (intro w hSw; (obtain ⟨m0, m1, _⟩ := hSw.k.f.two; have c1 := hSw.e1; have c0 := hSw.e0; clear hSw); (go_simp <;> with_reducible rfl)); simp only [List.getElem_toArray, List.getElem_cons_zero, List.getElem_cons_succ, Act.put, List.setIfInBounds_toArray, List.set_cons_zero, List.set_cons_succ])
          (refine wpAnyH_take (i := 3) (v := ?_) rfl (by kernel_rfl) (by kernel_rfl) (by kernel_rfl) (fun _ _ _ h => h) (Or.inl ⟨by rfl, ?_⟩) hHeld ?_; rotate_left; (intro w hSw; (obtain ⟨m0, m1, _⟩ := hSw.k.f.two; have c1 := hSw.e1; have c0 := hSw.e0; clear hSw); (go_simp <;> with_reducible rfl)); simp only [List.getElem_toArray, List.getElem_cons_zero, List.getElem_cons_succ, Act.put, List.setIfInBounds_toArray, List.set_cons_zero, List.set_cons_succ])
          (refine wpAnyH_take (i := 4) (v := ?_) rfl (by kernel_rfl) (by kernel_rfl) (by kernel_rfl) (fun _ _ _ h => h) (Or.inl ⟨by rfl, ?_⟩) hHeld ?_; rotate_left; (intro w hSw; (obtain ⟨m0, m1, _⟩ := hSw.k.f.two; have c1 := hSw.e1; have c0 := hSw.e0; clear hSw); (go_simp <;> with_reducible rfl)); simp only [List.getElem_toArray, List.getElem_cons_zero, List.getElem_cons_succ, Act.put, List.setIfInBounds_toArray, List.set_cons_zero, List.set_cons_succ])
          (refine wpAnyH_take (i := 6) (v := ?_) rfl (by kernel_rfl) (by kernel_rfl) (by kernel_rfl) (fun _ _ _ h => h) (Or.inl ⟨by rfl, ?_⟩) hHeld ?_; rotate_left; (intro w hSw; (obtain ⟨m0, m1, _⟩ := hSw.k.f.two; have c1 := hSw.e1; have c0 := hSw.e0; clear hSw); (go_simp <;> with_reducible rfl)); simp only [List.getElem_toArray, List.getElem_cons_zero, List.getElem_cons_succ, Act.put, List.setIfInBounds_toArray, List.set_cons_zero, List.set_cons_succ])
          (refine wpAnyH_take (i := 7) (v := ?_) rfl (by kernel_rfl) (by kernel_rfl) (by kernel_rfl) (fun _ _ _ h => h) (Or.inl ⟨by rfl, ?_⟩) hHeld ?_; rotate_left; (intro w hSw; (obtain ⟨m0, m1, _⟩ := hSw.k.f.two; have c1 := hSw.e1; have c0 := hSw.e0; clear hSw); (go_simp <;> with_reducible rfl)); simp only [List.getElem_toArray, List.getElem_cons_zero, List.getElem_cons_succ, Act.put, List.setIfInBounds_toArray, List.set_cons_zero, List.set_cons_succ])
          (refine wpAnyH_take (i := 8) (v := ?_) rfl (by kernel_rfl) (by kernel_rfl) (by kernel_rfl) (fun _ _ _ h => h) (Or.inl ⟨by rfl, ?_⟩) hHeld ?_; rotate_left; (intro w hSw; (obtain ⟨m0, m1, _⟩ := hSw.k.f.two; have c1 := hSw.e1; have c0 := hSw.e0; clear hSw); (go_simp <;> with_reducible rfl)); simp only [List.getElem_toArray, List.getElem_cons_zero, List.getElem_cons_succ, Act.put, List.setIfInBounds_toArray, List.set_cons_zero, List.set_cons_succ])
          (refine wpAnyH_take (i := 9) (v := ?_) rfl (by kernel_rfl) (by kernel_rfl) (by kernel_rfl) (fun _ _ _ h => h) (Or.inl ⟨by rfl, ?_⟩) hHeld ?_; rotate_left; (intro w hSw; (obtain ⟨m0, m1, _⟩ := hSw.k.f.two; have c1 := hSw.e1; have c0 := hSw.e0; clear hSw); (go_simp <;> with_reducible rfl)); simp only [List.getElem_toArray, List.getElem_cons_zero, List.getElem_cons_succ, Act.put, List.setIfInBounds_toArray, List.set_cons_zero, List.set_cons_succ])
          (refine wpAnyH_take (i := 10) (v := ?_) rfl (by kernel_rfl) (by kernel_rfl) (by kernel_rfl) (fun _ _ _ h => h) (Or.inl ⟨by rfl, ?_⟩) hHeld ?_; rotate_left; (intro w hSw; (obtain ⟨m0, m1, _⟩ := hSw.k.f.two; have c1 := hSw.e1; have c0 := hSw.e0; clear hSw); (go_simp <;> with_reducible rfl)); simp only [List.getElem_toArray, List.getElem_cons_zero, List.getElem_cons_succ, Act.put, List.setIfInBounds_toArray, List.set_cons_zero, List.set_cons_succ])
          (refine wpAnyH_take (i := 11) (v := ?_) rfl (by kernel_rfl) (by kernel_rfl) (by kernel_rfl) (fun _ _ _ h => h) (Or.inl ⟨by rfl, ?_⟩) hHeld ?_; rotate_left; (intro w hSw; (obtain ⟨m0, m1, _⟩ := hSw.k.f.two; have c1 := hSw.e1; have c0 := hSw.e0; clear hSw); (go_simp <;> with_reducible rfl)); simp only [List.getElem_toArray, List.getElem_cons_zero, List.getElem_cons_succ, Act.put, List.setIfInBounds_toArray, List.set_cons_zero, List.set_cons_succ])
          (refine wpAnyH_ready (rs := [5]) (by kernel_rfl) (by simp) ?_; refine AllReadyH.cons rfl (fun K hK => ?_) AllReadyH.nil; go_simp; (first | (refine (HA.out _).mono ?_; rintro e w11 ⟨rfl, rfl⟩) | (refine (HAy.out _).mono ?_; rintro e w11 ⟨rfl, rfl⟩)); refine hK.out _ _ ?_ (fun hHeld => ?_); (first | exact hHeld | exact hKd0); clear hK K; try dsimp only)
          (refine wpAnyH_ready (rs := [12]) (by kernel_rfl) (by simp) ?_; refine AllReadyH.cons rfl (fun K hK => ?_) AllReadyH.nil; go_simp; (first | (refine (HA.out _).mono ?_; rintro e w11 ⟨rfl, rfl⟩) | (refine (HAy.out _).mono ?_; rintro e w11 ⟨rfl, rfl⟩)); refine hK.out _ _ ?_ (fun hHeld => ?_); (first | exact hHeld | exact hKd0); clear hK K; try dsimp only)
          (refine wpAnyH_take (i := 13) (v := ?_) rfl (by kernel_rfl) (by kernel_rfl) (by kernel_rfl) (fun _ _ _ h => h) (Or.inl ⟨by rfl, ?_⟩) hHeld ?_; rotate_left; (intro w hSw; (obtain ⟨m0, m1, _⟩ := hSw.k.f.two; have c1 := hSw.e1; have c0 := hSw.e0; clear hSw); (go_simp <;> with_reducible rfl)); simp only [List.getElem_toArray, List.getElem_cons_zero, List.getElem_cons_succ, Act.put, List.setIfInBounds_toArray, List.set_cons_zero, List.set_cons_succ])
          (refine wpAnyH_take (i := 14) (v := ?_) rfl (by kernel_rfl) (by kernel_rfl) (by kernel_rfl) (fun _ _ _ h => h) (Or.inl ⟨by rfl, ?_⟩) hHeld ?_; rotate_left; (intro w hSw; (obtain ⟨m0, m1, _⟩ := hSw.k.f.two; have c1 := hSw.e1; have c0 := hSw.e0; clear hSw); (go_simp <;> with_reducible rfl)); simp only [List.getElem_toArray, List.getElem_cons_zero, List.getElem_cons_succ, Act.put, List.setIfInBounds_toArray, List.set_cons_zero, List.set_cons_succ])
          first | (refine wpAnyH_take (i := 15) (v := ?_) rfl (by kernel_rfl) (by kernel_rfl) (by kernel_rfl) (fun _ _ _ h => h) (Or.inl ⟨by rfl, ?_⟩) hHeld ?_; rotate_left; (intro w hSw; (obtain ⟨m0, m1, _⟩ := hSw.k.f.two; have c1 := hSw.e1; have c0 := hSw.e0; clear hSw); (go_simp <;> with_reducible rfl)); simp only [List.getElem_toArray, List.getElem_cons_zero, List.getElem_cons_succ, Act.put, List.setIfInBounds_toArray, List.set_cons_zero, List.set_cons_succ]) | (refine wpAnyH_take (i := 15) (v := undef) rfl (by kernel_rfl) (by kernel_rfl) (by kernel_rfl) (fun _ _ _ h => h) (Or.inr ⟨by rfl, rfl⟩) hHeld ?_; simp only [List.getElem_toArray, List.getElem_cons_zero, List.getElem_cons_succ, Act.put, List.setIfInBounds_toArray, List.set_cons_zero, List.set_cons_succ])
          first | (refine wpAnyH_take (i := 16) (v := ?_) rfl (by kernel_rfl) (by kernel_rfl) (by kernel_rfl) (fun _ _ _ h => h) (Or.inl ⟨by rfl, ?_⟩) hHeld ?_; rotate_left; (intro w hSw; (obtain ⟨m0, m1, _⟩ := hSw.k.f.two; have c1 := hSw.e1; have c0 := hSw.e0; clear hSw); (go_simp <;> with_reducible rfl)); simp only [List.getElem_toArray, List.getElem_cons_zero, List.getElem_cons_succ, Act.put, List.setIfInBounds_toArray, List.set_cons_zero, List.set_cons_succ]) | (refine wpAnyH_take (i := 16) (v := undef) rfl (by kernel_rfl) (by kernel_rfl) (by kernel_rfl) (fun _ _ _ h => h) (Or.inr ⟨by rfl, rfl⟩) hHeld ?_; simp only [List.getElem_toArray, List.getElem_cons_zero, List.getElem_cons_succ, Act.put, List.setIfInBounds_toArray, List.set_cons_zero, List.set_cons_succ])
          first | (refine wpAnyH_take (i := 17) (v := ?_) rfl (by kernel_rfl) (by kernel_rfl) (by kernel_rfl) (fun _ _ _ h => h) (Or.inl ⟨by rfl, ?_⟩) hHeld ?_; rotate_left; (intro w hSw; (obtain ⟨m0, m1, _⟩ := hSw.k.f.two; have c1 := hSw.e1; have c0 := hSw.e0; clear hSw); (go_simp <;> with_reducible rfl)); simp only [List.getElem_toArray, List.getElem_cons_zero, List.getElem_cons_succ, Act.put, List.setIfInBounds_toArray, List.set_cons_zero, List.set_cons_succ]) | (refine wpAnyH_take (i := 17) (v := undef) rfl (by kernel_rfl) (by kernel_rfl) (by kernel_rfl) (fun _ _ _ h => h) (Or.inr ⟨by rfl, rfl⟩) hHeld ?_; simp only [List.getElem_toArray, List.getElem_cons_zero, List.getElem_cons_succ, Act.put, List.setIfInBounds_toArray, List.set_cons_zero, List.set_cons_succ])
          first | (refine wpAnyH_take (i := 18) (v := ?_) rfl (by kernel_rfl) (by kernel_rfl) (by kernel_rfl) (fun _ _ _ h => h) (Or.inl ⟨by rfl, ?_⟩) hHeld ?_; rotate_left; (intro w hSw; (obtain ⟨m0, m1, _⟩ := hSw.k.f.two; have c1 := hSw.e1; have c0 := hSw.e0; clear hSw); (go_simp <;> with_reducible rfl)); simp only [List.getElem_toArray, List.getElem_cons_zero, List.getElem_cons_succ, Act.put, List.setIfInBounds_toArray, List.set_cons_zero, List.set_cons_succ]) | (refine wpAnyH_take (i := 18) (v := undef) rfl (by kernel_rfl) (by kernel_rfl) (by kernel_rfl) (fun _ _ _ h => h) (Or.inr ⟨by rfl, rfl⟩) hHeld ?_; simp only [List.getElem_toArray, List.getElem_cons_zero, List.getElem_cons_succ, Act.put, List.setIfInBounds_toArray, List.set_cons_zero, List.set_cons_succ])
          first | (refine wpAnyH_take (i := 19) (v := ?_) rfl (by kernel_rfl) (by kernel_rfl) (by kernel_rfl) (fun _ _ _ h => h) (Or.inl ⟨by rfl, ?_⟩) hHeld ?_; rotate_left; (intro w hSw; (obtain ⟨m0, m1, _⟩ := hSw.k.f.two; have c1 := hSw.e1; have c0 := hSw.e0; clear hSw); (go_simp <;> with_reducible rfl)); simp only [List.getElem_toArray, List.getElem_cons_zero, List.getElem_cons_succ, Act.put, List.setIfInBounds_toArray, List.set_cons_zero, List.set_cons_succ]) | (refine wpAnyH_take (i := 19) (v := undef) rfl (by kernel_rfl) (by kernel_rfl) (by kernel_rfl) (fun _ _ _ h => h) (Or.inr ⟨by rfl, rfl⟩) hHeld ?_; simp only [List.getElem_toArray, List.getElem_cons_zero, List.getElem_cons_succ, Act.put, List.setIfInBounds_toArray, List.set_cons_zero, List.set_cons_succ])
          first | (refine wpAnyH_take (i := 20) (v := ?_) rfl (by kernel_rfl) (by kernel_rfl) (by kernel_rfl) (fun _ _ _ h => h) (Or.inl ⟨by rfl, ?_⟩) hHeld ?_; rotate_left; (intro w hSw; (obtain ⟨m0, m1, _⟩ := hSw.k.f.two; have c1 := hSw.e1; have c0 := hSw.e0; clear hSw); (go_simp <;> with_reducible rfl)); simp only [List.getElem_toArray, List.getElem_cons_zero, List.getElem_cons_succ, Act.put, List.setIfInBounds_toArray, List.set_cons_zero, List.set_cons_succ]) | (refine wpAnyH_take (i := 20) (v := undef) rfl (by kernel_rfl) (by kernel_rfl) (by kernel_rfl) (fun _ _ _ h => h) (Or.inr ⟨by rfl, rfl⟩) hHeld ?_; simp only [List.getElem_toArray, List.getElem_cons_zero, List.getElem_cons_succ, Act.put, List.setIfInBounds_toArray, List.set_cons_zero, List.set_cons_succ])
          first | (refine wpAnyH_take (i := 22) (v := ?_) rfl (by kernel_rfl) (by kernel_rfl) (by kernel_rfl) (fun _ _ _ h => h) (Or.inl ⟨by rfl, ?_⟩) hHeld ?_; rotate_left; (intro w hSw; (obtain ⟨m0, m1, _⟩ := hSw.k.f.two; have c1 := hSw.e1; have c0 := hSw.e0; clear hSw); (go_simp <;> with_reducible rfl)); simp only [List.getElem_toArray, List.getElem_cons_zero, List.getElem_cons_succ, Act.put, List.setIfInBounds_toArray, List.set_cons_zero, List.set_cons_succ]) | (refine wpAnyH_take (i := 22) (v := undef) rfl (by kernel_rfl) (by kernel_rfl) (by kernel_rfl) (fun _ _ _ h => h) (Or.inr ⟨by rfl, rfl⟩) hHeld ?_; simp only [List.getElem_toArray, List.getElem_cons_zero, List.getElem_cons_succ, Act.put, List.setIfInBounds_toArray, List.set_cons_zero, List.set_cons_succ])
          first | (refine wpAnyH_take (i := 23) (v := ?_) rfl (by kernel_rfl) (by kernel_rfl) (by kernel_rfl) (fun _ _ _ h => h) (Or.inl ⟨by rfl, ?_⟩) hHeld ?_; rotate_left; (intro w hSw; (obtain ⟨m0, m1, _⟩ := hSw.k.f.two; have c1 := hSw.e1; have c0 := hSw.e0; clear hSw); (go_simp <;> with_reducible rfl)); simp only [List.getElem_toArray, List.getElem_cons_zero, List.getElem_cons_succ, Act.put, List.setIfInBounds_toArray, List.set_cons_zero, List.set_cons_succ]) | (refine wpAnyH_take (i := 23) (v := undef) rfl (by kernel_rfl) (by kernel_rfl) (by kernel_rfl) (fun _ _ _ h => h) (Or.inr ⟨by rfl, rfl⟩) hHeld ?_; simp only [List.getElem_toArray, List.getElem_cons_zero, List.getElem_cons_succ, Act.put, List.setIfInBounds_toArray, List.set_cons_zero, List.set_cons_succ])
          first | (refine wpAnyH_take (i := 24) (v := ?_) rfl (by kernel_rfl) (by kernel_rfl) (by kernel_rfl) (fun _ _ _ h => h) (Or.inl ⟨by rfl, ?_⟩) hHeld ?_; rotate_left; (intro w hSw; (obtain ⟨m0, m1, _⟩ := hSw.k.f.two; have c1 := hSw.e1; have c0 := hSw.e0; clear hSw); (go_simp <;> with_reducible rfl)); simp only [List.getElem_toArray, List.getElem_cons_zero, List.getElem_cons_succ, Act.put, List.setIfInBounds_toArray, List.set_cons_zero, List.set_cons_succ]) | (refine wpAnyH_take (i := 24) (v := undef) rfl (by kernel_rfl) (by kernel_rfl) (by kernel_rfl) (fun _ _ _ h => h) (Or.inr ⟨by rfl, rfl⟩) hHeld ?_; simp only [List.getElem_toArray, List.getElem_cons_zero, List.getElem_cons_succ, Act.put, List.setIfInBounds_toArray, List.set_cons_zero, List.set_cons_succ])
          first | (refine wpAnyH_take (i := 25) (v := ?_) rfl (by kernel_rfl) (by kernel_rfl) (by kernel_rfl) (fun _ _ _ h => h) (Or.inl ⟨by rfl, ?_⟩) hHeld ?_; rotate_left; (intro w hSw; (obtain ⟨m0, m1, _⟩ := hSw.k.f.two; have c1 := hSw.e1; have c0 := hSw.e0; clear hSw); (go_simp <;> with_reducible rfl)); simp only [List.getElem_toArray, List.getElem_cons_zero, List.getElem_cons_succ, Act.put, List.setIfInBounds_toArray, List.set_cons_zero, List.set_cons_succ]) | (refine wpAnyH_take (i := 25) (v := undef) rfl (by kernel_rfl) (by kernel_rfl) (by kernel_rfl) (fun _ _ _ h => h) (Or.inr ⟨by rfl, rfl⟩) hHeld ?_; simp only [List.getElem_toArray, List.getElem_cons_zero, List.getElem_cons_succ, Act.put, List.setIfInBounds_toArray, List.set_cons_zero, List.set_cons_succ])
          first | (refine wpAnyH_take (i := 26) (v := ?_) rfl (by kernel_rfl) (by kernel_rfl) (by kernel_rfl) (fun _ _ _ h => h) (Or.inl ⟨by rfl, ?_⟩) hHeld ?_; rotate_left; (intro w hSw; (obtain ⟨m0, m1, _⟩ := hSw.k.f.two; have c1 := hSw.e1; have c0 := hSw.e0; clear hSw); (go_simp <;> with_reducible rfl)); simp only [List.getElem_toArray, List.getElem_cons_zero, List.getElem_cons_succ, Act.put, List.setIfInBounds_toArray, List.set_cons_zero, List.set_cons_succ]) | (refine wpAnyH_take (i := 26) (v := undef) rfl (by kernel_rfl) (by kernel_rfl) (by kernel_rfl) (fun _ _ _ h => h) (Or.inr ⟨by rfl, rfl⟩) hHeld ?_; simp only [List.getElem_toArray, List.getElem_cons_zero, List.getElem_cons_succ, Act.put, List.setIfInBounds_toArray, List.set_cons_zero, List.set_cons_succ])
          first | (refine wpAnyH_take (i := 21) (v := undef) rfl (by kernel_rfl) (by kernel_rfl) (by kernel_rfl) (fun _ _ _ h => h) (Or.inr ⟨by rfl, rfl⟩) hHeld ?_; simp only [List.getElem_toArray, List.getElem_cons_zero, List.getElem_cons_succ, Act.put, List.setIfInBounds_toArray, List.set_cons_zero, List.set_cons_succ]) | (refine wpAnyH_ready (rs := [21]) (by kernel_rfl) (by simp) ?_; refine AllReadyH.cons rfl (fun K hK => ?_) AllReadyH.nil; go_simp; (first | (refine (HA.out _).mono ?_; rintro e w11 ⟨rfl, rfl⟩) | (refine (HAy.out _).mono ?_; rintro e w11 ⟨rfl, rfl⟩)); refine hK.out _ _ ?_ (fun hHeld => ?_); (first | exact hHeld | exact hKd0); clear hK K; try dsimp only)
          first | (refine wpAnyH_take (i := 27) (v := undef) rfl (by kernel_rfl) (by kernel_rfl) (by kernel_rfl) (fun _ _ _ h => h) (Or.inr ⟨by rfl, rfl⟩) hHeld ?_; simp only [List.getElem_toArray, List.getElem_cons_zero, List.getElem_cons_succ, Act.put, List.setIfInBounds_toArray, List.set_cons_zero, List.set_cons_succ]) | (refine wpAnyH_ready (rs := [27]) (by kernel_rfl) (by simp) ?_; refine AllReadyH.cons rfl (fun K hK => ?_) AllReadyH.nil; go_simp; (first | (refine (HA.out _).mono ?_; rintro e w11 ⟨rfl, rfl⟩) | (refine (HAy.out _).mono ?_; rintro e w11 ⟨rfl, rfl⟩)); refine hK.out _ _ ?_ (fun hHeld => ?_); (first | exact hHeld | exact hKd0); clear hK K; try dsimp only)
          first | (refine wpAnyH_take (i := 28) (v := ?_) rfl (by kernel_rfl) (by kernel_rfl) (by kernel_rfl) (fun _ _ _ h => h) (Or.inl ⟨by rfl, ?_⟩) hHeld ?_; rotate_left; (intro w hSw; (obtain ⟨m0, m1, _⟩ := hSw.k.f.two; have c1 := hSw.e1; have c0 := hSw.e0; clear hSw); (go_simp <;> with_reducible rfl)); simp only [List.getElem_toArray, List.getElem_cons_zero, List.getElem_cons_succ, Act.put, List.setIfInBounds_toArray, List.set_cons_zero, List.set_cons_succ]) | (refine wpAnyH_take (i := 28) (v := undef) rfl (by kernel_rfl) (by kernel_rfl) (by kernel_rfl) (fun _ _ _ h => h) (Or.inr ⟨by rfl, rfl⟩) hHeld ?_; simp only [List.getElem_toArray, List.getElem_cons_zero, List.getElem_cons_succ, Act.put, List.setIfInBounds_toArray, List.set_cons_zero, List.set_cons_succ])
          first | (refine wpAnyH_take (i := 29) (v := ?_) rfl (by kernel_rfl) (by kernel_rfl) (by kernel_rfl) (fun _ _ _ h => h) (Or.inl ⟨by rfl, ?_⟩) hHeld ?_; rotate_left; (intro w hSw; (obtain ⟨m0, m1, _⟩ := hSw.k.f.two; have c1 := hSw.e1; have c0 := hSw.e0; clear hSw); (go_simp <;> with_reducible rfl)); simp only [List.getElem_toArray, List.getElem_cons_zero, List.getElem_cons_succ, Act.put, List.setIfInBounds_toArray, List.set_cons_zero, List.set_cons_succ]) | (refine wpAnyH_take (i := 29) (v := undef) rfl (by kernel_rfl) (by kernel_rfl) (by kernel_rfl) (fun _ _ _ h => h) (Or.inr ⟨by rfl, rfl⟩) hHeld ?_; simp only [List.getElem_toArray, List.getElem_cons_zero, List.getElem_cons_succ, Act.put, List.setIfInBounds_toArray, List.set_cons_zero, List.set_cons_succ])
          (refine wpAnyH_take (i := 30) (v := ?_) rfl (by kernel_rfl) (by kernel_rfl) (by kernel_rfl) (fun _ _ _ h => h) (Or.inl ⟨by rfl, ?_⟩) hHeld ?_; rotate_left; (intro w hSw; (obtain ⟨m0, m1, _⟩ := hSw.k.f.two; have c1 := hSw.e1; have c0 := hSw.e0; clear hSw); (go_simp <;> with_reducible rfl)); simp only [List.getElem_toArray, List.getElem_cons_zero, List.getElem_cons_succ, Act.put, List.setIfInBounds_toArray, List.set_cons_zero, List.set_cons_succ])
          refine wpAnyH_done (by kernel_rfl) ?_ _
          refine NoPanic.normal ?_
          have HKy := hid hHeld.k
          clear hHeld hKd0 HE hK
          go_wp2
          go_roundw
          case rel => exact ⟨i + 1, by omega, Or.inl (by omega), by go_num, HKy.out⟩
          case measure => simp [intOf]; omega
        · have hcond : ¬ (i : Int) < (l.length : Int) := by omega
          have HNn := hid (HN.out _ l wr hK.out.b hK.out.l)
          have hbeq : ((l.length : Int) == d) = true := by rw [HD1.out]; simp
          rw [HNv.out] at HNn
          have HKb := hid hK.out.b
          clear HL4 HL5 hK HN hi
          go_wp2_with fail
          refine HNn.out.mono ?_
          rintro e w9 ⟨rfl, hb9⟩
          have HB9 := hid (bthen HKb.out hb9)
          clear hb9 HNn HKb m0 m1
          go_wp2
          go_ret
          exact ⟨rfl, HB9.out⟩
    · have HBz := hid HK9.out.b
      clear HK9 HL HN HGd
      go_wp2
      go_ret
      exact ⟨rfl, HBz.out⟩
end Go.Proofs.Ytkbkklhofffimaa.FilW
