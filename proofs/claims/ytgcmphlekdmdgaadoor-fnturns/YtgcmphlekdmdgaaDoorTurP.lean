/- TurnOf, TurnPair and BackPair of the program: what they return at every argument. Condition: the table holds what its own text lays. -/
import Derived.Test.YtgcmphlekdmdgaaDoorTurB
import Derived.Test.YtgcmphlekdmdgaaDoorPar
namespace Go.Proofs.YtgcmphlekdmdgaaDoor.TurP
open Go.ChangeShapes Go.WideShapes Go.ChangeAt Go.RowKit Go.Proofs.YtgcmphlekdmdgaaDoor.Num Go.Proofs.YtgcmphlekdmdgaaDoor.Sli Go.Proofs.YtgcmphlekdmdgaaDoor.Samp Go.Proofs.YtgcmphlekdmdgaaDoor.Blk Go.Proofs.YtgcmphlekdmdgaaDoor.TurM Go.Proofs.YtgcmphlekdmdgaaDoor.TurI Go.Proofs.YtgcmphlekdmdgaaDoor.TurA Go.Proofs.YtgcmphlekdmdgaaDoor.TurB Go.Proofs.YtgcmphlekdmdgaaDoor.Par

theorem implTurnOf_calls (s n : Int) (w : World) (hT : Tab w) :
    Calls Tryd.prog 11 #[.int .i64 s, .int .i64 n] w fun e w' => e = .returned (.agg #[.int .i64 (tC s n), .int .i64 (tA s n), .int .i64 (tB s n)]) ∧ Below w.heap.size w w' := by
  have HF := hid (turnOf_calls s n _ (hT.later (bmore (Below.refl _ w) (.cells #[.int .i64 0, .int .i64 0, .int .i64 0] 27))))
  have HR := hid result_calls
  clear hT
  cases h : tOk s n
  · obtain ⟨e1, e2, e3⟩ := t_no h
    rw [e1, e2, e3] at HF
    have HE := hid (And.intro e1 (And.intro e2 e3))
    clear e1 e2 e3 h
    go_enter Tryd.func11, Tryd.ntmps11
    go_wp2_with fail
    refine HF.out.mono ?_
    rintro e w1 ⟨rfl, hb1⟩
    have HB := hid ((Blk.new w #[.int .i64 0, .int .i64 0, .int .i64 0] 27).later hb1)
    have HL := hid (bthen (bmore (Below.refl _ w) _) hb1)
    obtain ⟨c0, c1, c2, f0, f1, f2⟩ := HB.out.three
    have hlt := HB.out.lt
    clear hb1 HF
    go_wp2
    exact bodyPost_ret (v := .agg #[.int .i64 3, .int .i64 0, .int .i64 0]) (by simp [results, Tryd.results11, go_sem, c0, c1, c2, hlt]) rfl ⟨by rw [HE.out.1, HE.out.2.1, HE.out.2.2], bmore (below_cell (below_cell (below_cell HL.out (Nat.le_refl _) _ _) (Nat.le_refl _) _ _) (Nat.le_refl _) _ _) _⟩
  · obtain ⟨e1, e2, e3⟩ := t_yes h
    rw [e1, e2, e3] at HF
    have HE := hid (And.intro e1 (And.intro e2 e3))
    clear e1 e2 e3 h
    generalize pV s n = p at *
    generalize uV s n = u at *
    go_enter Tryd.func11, Tryd.ntmps11
    go_wp2_with fail
    refine HF.out.mono ?_
    rintro e w1 ⟨rfl, hb1⟩
    have HB := hid ((Blk.new w #[.int .i64 0, .int .i64 0, .int .i64 0] 27).later hb1)
    have HL := hid (bthen (bmore (Below.refl _ w) _) hb1)
    have hlt := HB.out.lt
    clear hb1 HF
    go_wp2_with fail
    refine (HR.out _ _ _).mono ?_
    rintro e w2 ⟨rfl, hb2⟩
    have HB2 := hid ((HB.out.alloc (.cells #[.int .i64 p, .int .i64 u] 44)).later hb2)
    have HL2 := hid (bthen (bmore HL.out (.cells #[.int .i64 p, .int .i64 u] 44)) hb2)
    obtain ⟨c0, c1, c2, f0, f1, f2⟩ := HB2.out.three
    clear hb2 HB HL
    go_wp2
    exact bodyPost_ret (v := .agg #[.int .i64 0, .int .i64 p, .int .i64 u]) (by simp [results, Tryd.results11, go_sem, c0, c1, c2]) rfl ⟨by rw [HE.out.1, HE.out.2.1, HE.out.2.2], below_cell (below_cell (below_cell HL2.out (Nat.le_refl _) _ _) (Nat.le_refl _) _ _) (Nat.le_refl _) _ _⟩
set_option maxHeartbeats 2000000 in
theorem turned_ahead (s n a b : Int) (w : World) (hT : Tab w) :
    Calls Tryd.prog 20 #[.int .i64 s, .int .i64 n, .int .i64 a, .int .i64 b, .func (.func 21) #[] #[]] w fun e w' => e = .returned (.agg #[.int .i64 (tpC s n a b), .int .i64 (tpA s n a b), .int .i64 (tpB s n a b)]) ∧ Below w.heap.size w w' := by
  have HF := hid (turnOf_calls s n _ (hT.later (bmore (Below.refl _ w) (.cells #[.int .i64 0, .int .i64 0, .int .i64 0] 27))))
  have HR := hid result_calls
  have HW := hid isWide_calls
  clear hT
  cases h : tOk s n
  · have HE : Hid (tpC s n a b = 3 ∧ tpA s n a b = 0 ∧ tpB s n a b = 0) := by
      obtain ⟨g1, g2, _⟩ := tp_no (s := s) (n := n) (a := a) (b := b) (by unfold tpO; rw [h]; rfl)
      exact ⟨g1, g2.1, g2.2⟩
    obtain ⟨e1, e2, e3⟩ := t_no h
    rw [e1, e2, e3] at HF
    clear e1 e2 e3 h HW HR
    go_enter Tryd.func20, Tryd.ntmps20
    go_wp2_with fail
    refine HF.out.mono ?_
    rintro e w1 ⟨rfl, hb1⟩
    have HB := hid ((Blk.new w #[.int .i64 0, .int .i64 0, .int .i64 0] 27).later hb1)
    have HL := hid (bthen (bmore (Below.refl _ w) _) hb1)
    obtain ⟨c0, c1, c2, f0, f1, f2⟩ := HB.out.three
    have hlt := HB.out.lt
    clear hb1 HF
    go_wp2
    exact bodyPost_ret (v := .agg #[.int .i64 3, .int .i64 0, .int .i64 0]) (by simp [results, Tryd.results20, go_sem, c0, c1, c2, hlt]) rfl ⟨by rw [HE.out.1, HE.out.2.1, HE.out.2.2], bmore (below_cell (below_cell (below_cell HL.out (Nat.le_refl _) _ _) (Nat.le_refl _) _ _) (Nat.le_refl _) _ _) _⟩
  · obtain ⟨e1, e2, e3⟩ := t_yes h
    rw [e1, e2, e3] at HF
    clear e1 e2 e3
    have hpu := pu_bd h
    cases hw : (wd a && wd b)
    · have HE : Hid (tpC s n a b = 3 ∧ tpA s n a b = 0 ∧ tpB s n a b = 0) := by
        obtain ⟨g1, g2, _⟩ := tp_no (s := s) (n := n) (a := a) (b := b) (by unfold tpO; rw [hw]; simp)
        exact ⟨g1, g2.1, g2.2⟩
      have HW1 := hid (HW.out a b)
      rw [hw] at HW1
      clear hw h HW HR hpu
      generalize pV s n = p at *
      generalize uV s n = u at *
      go_enter Tryd.func20, Tryd.ntmps20
      go_wp2_with fail
      refine HF.out.mono ?_
      rintro e w1 ⟨rfl, hb1⟩
      have HB := hid ((Blk.new w #[.int .i64 0, .int .i64 0, .int .i64 0] 27).later hb1)
      have HL := hid (bthen (bmore (Below.refl _ w) _) hb1)
      have hlt := HB.out.lt
      clear hb1 HF
      go_wp2_with fail
      refine (HW1.out _).mono ?_
      rintro e w2 ⟨rfl, hb2⟩
      have HB2 := hid (((HB.out.alloc (.cells #[.int .i64 p, .int .i64 u] 44)).alloc (.cells #[.int .i64 a, .int .i64 b] 50)).later hb2)
      have HL2 := hid (bthen (bmore (bmore HL.out (.cells #[.int .i64 p, .int .i64 u] 44)) (.cells #[.int .i64 a, .int .i64 b] 50)) hb2)
      obtain ⟨c0, c1, c2, f0, f1, f2⟩ := HB2.out.three
      clear hb2 HB HL HW1
      go_wp2
      exact bodyPost_ret (v := .agg #[.int .i64 3, .int .i64 0, .int .i64 0]) (by simp [results, Tryd.results20, go_sem, c0, c1, c2]) rfl ⟨by rw [HE.out.1, HE.out.2.1, HE.out.2.2], below_cell (below_cell (below_cell HL2.out (Nat.le_refl _) _ _) (Nat.le_refl _) _ _) (Nat.le_refl _) _ _⟩
    · have HE : Hid (tpC s n a b = 0 ∧ tpA s n a b = ahA (pV s n) (uV s n) a b ∧ tpB s n a b = ahB (pV s n) (uV s n) a b) := by
        obtain ⟨g1, g2, _⟩ := tp_yes (s := s) (n := n) (a := a) (b := b) (by unfold tpO; rw [h, hw]; rfl)
        exact ⟨g1, g2.1, g2.2⟩
      have HW1 := hid (HW.out a b)
      rw [hw] at HW1
      have hab : wd a = true ∧ wd b = true := by simpa using hw
      have HA := hid (fun W => ahead_calls (pV s n) (uV s n) a b W hpu (of_inB hab.1) (of_inB hab.2))
      clear hw h HW hpu hab
      generalize ahA (pV s n) (uV s n) a b = xa at *
      generalize ahB (pV s n) (uV s n) a b = xb at *
      generalize pV s n = p at *
      generalize uV s n = u at *
      go_enter Tryd.func20, Tryd.ntmps20
      go_wp2_with fail
      refine HF.out.mono ?_
      rintro e w1 ⟨rfl, hb1⟩
      have HB := hid ((Blk.new w #[.int .i64 0, .int .i64 0, .int .i64 0] 27).later hb1)
      have HL := hid (bthen (bmore (Below.refl _ w) _) hb1)
      have hlt := HB.out.lt
      clear hb1 HF
      go_wp2_with fail
      refine (HW1.out _).mono ?_
      rintro e w2 ⟨rfl, hb2⟩
      obtain ⟨hT2, hV2, _, _⟩ := boxes2 hb2
      have HB2 := hid (((HB.out.alloc (.cells #[.int .i64 p, .int .i64 u] 44)).alloc (.cells #[.int .i64 a, .int .i64 b] 50)).later hb2)
      have HL2 := hid (bthen (bmore (bmore HL.out (.cells #[.int .i64 p, .int .i64 u] 44)) (.cells #[.int .i64 a, .int .i64 b] 50)) hb2)
      obtain ⟨t0, t1, _, _⟩ := hT2.two
      obtain ⟨v0, v1, _, _⟩ := hV2.two
      clear hb2 HB HL HW1 hT2 hV2
      go_wp2_with fail
      refine (HA.out _).mono ?_
      rintro e w3 ⟨rfl, hb3⟩
      have HB3 := hid (HB2.out.later hb3)
      have HL3 := hid (bthen HL2.out hb3)
      clear HB2 HL2 hb3 HA t0 t1 v0 v1
      go_wp2_with fail
      refine (HR.out _ _ _).mono ?_
      rintro e w4 ⟨rfl, hb4⟩
      have HB4 := hid (HB3.out.later hb4)
      have HL4 := hid (bthen HL3.out hb4)
      obtain ⟨c0, c1, c2, f0, f1, f2⟩ := HB4.out.three
      clear HB3 HL3 hb4
      go_wp2
      exact bodyPost_ret (v := .agg #[.int .i64 0, .int .i64 xa, .int .i64 xb]) (by simp [results, Tryd.results20, go_sem, c0, c1, c2]) rfl ⟨by rw [HE.out.1, HE.out.2.1, HE.out.2.2], below_cell (below_cell (below_cell HL4.out (Nat.le_refl _) _ _) (Nat.le_refl _) _ _) (Nat.le_refl _) _ _⟩
theorem implTurnPair_calls (s n a b : Int) (w : World) (hT : Tab w) :
    Calls Tryd.prog 9 #[.int .i64 s, .int .i64 n, .int .i64 a, .int .i64 b] w fun e w' => e = .returned (.agg #[.int .i64 (tpC s n a b), .int .i64 (tpA s n a b), .int .i64 (tpB s n a b)]) ∧ Below w.heap.size w w' := by
  have HF := hid (turned_ahead s n a b _ (hT.later (bmore (Below.refl _ w) (.cells #[.int .i64 0, .int .i64 0, .int .i64 0] 27))))
  clear hT
  generalize tpC s n a b = c at *
  generalize tpA s n a b = xa at *
  generalize tpB s n a b = xb at *
  go_enter Tryd.func9, Tryd.ntmps9
  go_wp2_with fail
  refine HF.out.mono ?_
  rintro e w1 ⟨rfl, hb1⟩
  have HB := hid ((Blk.new w #[.int .i64 0, .int .i64 0, .int .i64 0] 27).later hb1)
  have HL := hid (bthen (bmore (Below.refl _ w) _) hb1)
  obtain ⟨c0, c1, c2, f0, f1, f2⟩ := HB.out.three
  clear hb1 HF
  go_wp2
  exact bodyPost_ret (v := .agg #[.int .i64 c, .int .i64 xa, .int .i64 xb]) (by simp [results, Tryd.results9, go_sem, c0, c1, c2]) rfl ⟨rfl, below_cell (below_cell (below_cell HL.out (Nat.le_refl _) _ _) (Nat.le_refl _) _ _) (Nat.le_refl _) _ _⟩
set_option maxHeartbeats 2000000 in
theorem turned_back (s n a b : Int) (w : World) (hT : Tab w) :
    Calls Tryd.prog 20 #[.int .i64 s, .int .i64 n, .int .i64 a, .int .i64 b, .func (.func 30) #[] #[]] w fun e w' => e = .returned (.agg #[.int .i64 (tpC s n a b), .int .i64 (bpA s n a b), .int .i64 (bpB s n a b)]) ∧ Below w.heap.size w w' := by
  have HF := hid (turnOf_calls s n _ (hT.later (bmore (Below.refl _ w) (.cells #[.int .i64 0, .int .i64 0, .int .i64 0] 27))))
  have HR := hid result_calls
  have HW := hid isWide_calls
  clear hT
  cases h : tOk s n
  · have HE : Hid (tpC s n a b = 3 ∧ bpA s n a b = 0 ∧ bpB s n a b = 0) := by
      obtain ⟨g1, _, g3⟩ := tp_no (s := s) (n := n) (a := a) (b := b) (by unfold tpO; rw [h]; rfl)
      exact ⟨g1, g3.1, g3.2⟩
    obtain ⟨e1, e2, e3⟩ := t_no h
    rw [e1, e2, e3] at HF
    clear e1 e2 e3 h HW HR
    go_enter Tryd.func20, Tryd.ntmps20
    go_wp2_with fail
    refine HF.out.mono ?_
    rintro e w1 ⟨rfl, hb1⟩
    have HB := hid ((Blk.new w #[.int .i64 0, .int .i64 0, .int .i64 0] 27).later hb1)
    have HL := hid (bthen (bmore (Below.refl _ w) _) hb1)
    obtain ⟨c0, c1, c2, f0, f1, f2⟩ := HB.out.three
    have hlt := HB.out.lt
    clear hb1 HF
    go_wp2
    exact bodyPost_ret (v := .agg #[.int .i64 3, .int .i64 0, .int .i64 0]) (by simp [results, Tryd.results20, go_sem, c0, c1, c2, hlt]) rfl ⟨by rw [HE.out.1, HE.out.2.1, HE.out.2.2], bmore (below_cell (below_cell (below_cell HL.out (Nat.le_refl _) _ _) (Nat.le_refl _) _ _) (Nat.le_refl _) _ _) _⟩
  · obtain ⟨e1, e2, e3⟩ := t_yes h
    rw [e1, e2, e3] at HF
    clear e1 e2 e3
    have hpu := pu_bd h
    cases hw : (wd a && wd b)
    · have HE : Hid (tpC s n a b = 3 ∧ bpA s n a b = 0 ∧ bpB s n a b = 0) := by
        obtain ⟨g1, _, g3⟩ := tp_no (s := s) (n := n) (a := a) (b := b) (by unfold tpO; rw [hw]; simp)
        exact ⟨g1, g3.1, g3.2⟩
      have HW1 := hid (HW.out a b)
      rw [hw] at HW1
      clear hw h HW HR hpu
      generalize pV s n = p at *
      generalize uV s n = u at *
      go_enter Tryd.func20, Tryd.ntmps20
      go_wp2_with fail
      refine HF.out.mono ?_
      rintro e w1 ⟨rfl, hb1⟩
      have HB := hid ((Blk.new w #[.int .i64 0, .int .i64 0, .int .i64 0] 27).later hb1)
      have HL := hid (bthen (bmore (Below.refl _ w) _) hb1)
      have hlt := HB.out.lt
      clear hb1 HF
      go_wp2_with fail
      refine (HW1.out _).mono ?_
      rintro e w2 ⟨rfl, hb2⟩
      have HB2 := hid (((HB.out.alloc (.cells #[.int .i64 p, .int .i64 u] 44)).alloc (.cells #[.int .i64 a, .int .i64 b] 50)).later hb2)
      have HL2 := hid (bthen (bmore (bmore HL.out (.cells #[.int .i64 p, .int .i64 u] 44)) (.cells #[.int .i64 a, .int .i64 b] 50)) hb2)
      obtain ⟨c0, c1, c2, f0, f1, f2⟩ := HB2.out.three
      clear hb2 HB HL HW1
      go_wp2
      exact bodyPost_ret (v := .agg #[.int .i64 3, .int .i64 0, .int .i64 0]) (by simp [results, Tryd.results20, go_sem, c0, c1, c2]) rfl ⟨by rw [HE.out.1, HE.out.2.1, HE.out.2.2], below_cell (below_cell (below_cell HL2.out (Nat.le_refl _) _ _) (Nat.le_refl _) _ _) (Nat.le_refl _) _ _⟩
    · have HE : Hid (tpC s n a b = 0 ∧ bpA s n a b = bkA (pV s n) (uV s n) a b ∧ bpB s n a b = bkB (pV s n) (uV s n) a b) := by
        obtain ⟨g1, _, g3⟩ := tp_yes (s := s) (n := n) (a := a) (b := b) (by unfold tpO; rw [h, hw]; rfl)
        exact ⟨g1, g3.1, g3.2⟩
      have HW1 := hid (HW.out a b)
      rw [hw] at HW1
      have hab : wd a = true ∧ wd b = true := by simpa using hw
      have HA := hid (fun W => back_calls (pV s n) (uV s n) a b W hpu (of_inB hab.1) (of_inB hab.2))
      clear hw h HW hpu hab
      generalize bkA (pV s n) (uV s n) a b = xa at *
      generalize bkB (pV s n) (uV s n) a b = xb at *
      generalize pV s n = p at *
      generalize uV s n = u at *
      go_enter Tryd.func20, Tryd.ntmps20
      go_wp2_with fail
      refine HF.out.mono ?_
      rintro e w1 ⟨rfl, hb1⟩
      have HB := hid ((Blk.new w #[.int .i64 0, .int .i64 0, .int .i64 0] 27).later hb1)
      have HL := hid (bthen (bmore (Below.refl _ w) _) hb1)
      have hlt := HB.out.lt
      clear hb1 HF
      go_wp2_with fail
      refine (HW1.out _).mono ?_
      rintro e w2 ⟨rfl, hb2⟩
      obtain ⟨hT2, hV2, _, _⟩ := boxes2 hb2
      have HB2 := hid (((HB.out.alloc (.cells #[.int .i64 p, .int .i64 u] 44)).alloc (.cells #[.int .i64 a, .int .i64 b] 50)).later hb2)
      have HL2 := hid (bthen (bmore (bmore HL.out (.cells #[.int .i64 p, .int .i64 u] 44)) (.cells #[.int .i64 a, .int .i64 b] 50)) hb2)
      obtain ⟨t0, t1, _, _⟩ := hT2.two
      obtain ⟨v0, v1, _, _⟩ := hV2.two
      clear hb2 HB HL HW1 hT2 hV2
      go_wp2_with fail
      refine (HA.out _).mono ?_
      rintro e w3 ⟨rfl, hb3⟩
      have HB3 := hid (HB2.out.later hb3)
      have HL3 := hid (bthen HL2.out hb3)
      clear HB2 HL2 hb3 HA t0 t1 v0 v1
      go_wp2_with fail
      refine (HR.out _ _ _).mono ?_
      rintro e w4 ⟨rfl, hb4⟩
      have HB4 := hid (HB3.out.later hb4)
      have HL4 := hid (bthen HL3.out hb4)
      obtain ⟨c0, c1, c2, f0, f1, f2⟩ := HB4.out.three
      clear HB3 HL3 hb4
      go_wp2
      exact bodyPost_ret (v := .agg #[.int .i64 0, .int .i64 xa, .int .i64 xb]) (by simp [results, Tryd.results20, go_sem, c0, c1, c2]) rfl ⟨by rw [HE.out.1, HE.out.2.1, HE.out.2.2], below_cell (below_cell (below_cell HL4.out (Nat.le_refl _) _ _) (Nat.le_refl _) _ _) (Nat.le_refl _) _ _⟩
theorem implBackPair_calls (s n a b : Int) (w : World) (hT : Tab w) :
    Calls Tryd.prog 13 #[.int .i64 s, .int .i64 n, .int .i64 a, .int .i64 b] w fun e w' => e = .returned (.agg #[.int .i64 (tpC s n a b), .int .i64 (bpA s n a b), .int .i64 (bpB s n a b)]) ∧ Below w.heap.size w w' := by
  have HF := hid (turned_back s n a b _ (hT.later (bmore (Below.refl _ w) (.cells #[.int .i64 0, .int .i64 0, .int .i64 0] 27))))
  clear hT
  generalize tpC s n a b = c at *
  generalize bpA s n a b = xa at *
  generalize bpB s n a b = xb at *
  go_enter Tryd.func13, Tryd.ntmps13
  go_wp2_with fail
  refine HF.out.mono ?_
  rintro e w1 ⟨rfl, hb1⟩
  have HB := hid ((Blk.new w #[.int .i64 0, .int .i64 0, .int .i64 0] 27).later hb1)
  have HL := hid (bthen (bmore (Below.refl _ w) _) hb1)
  obtain ⟨c0, c1, c2, f0, f1, f2⟩ := HB.out.three
  clear hb1 HF
  go_wp2
  exact bodyPost_ret (v := .agg #[.int .i64 c, .int .i64 xa, .int .i64 xb]) (by simp [results, Tryd.results13, go_sem, c0, c1, c2]) rfl ⟨rfl, below_cell (below_cell (below_cell HL.out (Nat.le_refl _) _ _) (Nat.le_refl _) _ _) (Nat.le_refl _) _ _⟩
end Go.Proofs.YtgcmphlekdmdgaaDoor.TurP
