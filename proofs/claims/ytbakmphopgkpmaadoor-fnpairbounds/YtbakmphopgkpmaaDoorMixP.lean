/- MixPair, PartPair and PartBounds, the program's and the model's: what they return at every argument. No conditions. -/
import Derived.Test.YtbakmphopgkpmaaDoorMixI
import Derived.Test.YtbakmphopgkpmaaDoorGb
namespace Go.Proofs.YtbakmphopgkpmaaDoor.MixP
open Go.ChangeShapes Go.WideShapes Go.ChangeAt Go.RowKit Go.Proofs.YtbakmphopgkpmaaDoor.Num Go.Proofs.YtbakmphopgkpmaaDoor.Sli Go.Proofs.YtbakmphopgkpmaaDoor.Div Go.Proofs.YtbakmphopgkpmaaDoor.Samp Go.Proofs.YtbakmphopgkpmaaDoor.Blk Go.Proofs.YtbakmphopgkpmaaDoor.TurM Go.Proofs.YtbakmphopgkpmaaDoor.BndM Go.Proofs.YtbakmphopgkpmaaDoor.Par Go.Proofs.YtbakmphopgkpmaaDoor.MixS Go.Proofs.YtbakmphopgkpmaaDoor.MixI

set_option maxRecDepth 100000 in
set_option maxHeartbeats 2000000 in
/-- What is asked by a function that is handed in, and then done by another one. -/
theorem by_calls (nF nW : FuncId) (bt : Bool) (a b xa xb : Int) (w : World)
    (qF : ∀ args w, (callFunc nF args).run Tryd.prog w = .ok (.enter nF args) w) (qW : ∀ args w, (callFunc nW args).run Tryd.prog w = .ok (.enter nW args) w)
    (hF : ∀ W, Calls Tryd.prog nF #[.agg #[.int .i64 a, .int .i64 b]] W fun e w' => e = .returned (.bool bt) ∧ Below W.heap.size W w')
    (hW : bt = true → ∀ W, Calls Tryd.prog nW #[.agg #[.int .i64 a, .int .i64 b]] W fun e w' => e = .returned (.agg #[.int .i64 xa, .int .i64 xb]) ∧ Below W.heap.size W w') :
    Calls Tryd.prog 51 #[.agg #[.int .i64 a, .int .i64 b], .func (.func nF) #[] #[], .func (.func nW) #[] #[]] w fun e w' => e = .returned (.agg #[.int .i64 (if bt = true then 0 else 3), .int .i64 (if bt = true then xa else 0), .int .i64 (if bt = true then xb else 0)]) ∧ Below w.heap.size w w' := by
  have HR := hid result_calls
  have HW1 := hid hF
  cases bt
  · rw [if_neg (by decide), if_neg (by decide), if_neg (by decide)]
    clear HR hF hW
    go_enter Tryd.func51, Tryd.ntmps51
    go_wp2_with fail
    refine (HW1.out _).mono ?_
    rintro e w2 ⟨rfl, hb2⟩
    obtain ⟨_, hB2, hL2, _⟩ := boxes2 hb2
    obtain ⟨c0, c1, c2, f0, f1, f2⟩ := hB2.three
    have HL2 := hid hL2
    clear hb2 HW1 hB2 hL2
    go_wp2
    exact bodyPost_ret (v := .agg #[.int .i64 3, .int .i64 0, .int .i64 0]) (by simp [results, Tryd.results51, go_sem, c0, c1, c2]) rfl ⟨rfl, below_cell (below_cell (below_cell HL2.out (by omega) _ _) (by omega) _ _) (by omega) _ _⟩
  · rw [if_pos rfl, if_pos rfl, if_pos rfl]
    have HA := hid (hW rfl)
    clear hF hW
    go_enter Tryd.func51, Tryd.ntmps51
    go_wp2_with fail
    refine (HW1.out _).mono ?_
    rintro e w2 ⟨rfl, hb2⟩
    obtain ⟨hV2, hB2, hL2, _⟩ := boxes2 hb2
    have HB2 := hid hB2
    have HL2 := hid hL2
    obtain ⟨v0, v1, _, _⟩ := hV2.two
    clear hb2 HW1 hV2 hB2 hL2
    go_wp2_with fail
    refine (HA.out _).mono ?_
    rintro e w3 ⟨rfl, hb3⟩
    have HB3 := hid (HB2.out.later hb3)
    have HL3 := hid (bthen HL2.out hb3)
    clear HB2 HL2 hb3 HA v0 v1
    go_wp2_with fail
    refine (HR.out _ _ _).mono ?_
    rintro e w4 ⟨rfl, hb4⟩
    have HB4 := hid (HB3.out.later hb4)
    have HL4 := hid (bthen HL3.out hb4)
    obtain ⟨c0, c1, c2, f0, f1, f2⟩ := HB4.out.three
    clear HB3 HL3 hb4
    go_wp2
    exact bodyPost_ret (v := .agg #[.int .i64 0, .int .i64 xa, .int .i64 xb]) (by simp [results, Tryd.results51, go_sem, c0, c1, c2]) rfl ⟨rfl, below_cell (below_cell (below_cell HL4.out (by omega) _ _) (by omega) _ _) (by omega) _ _⟩
theorem by_parted (a b : Int) (w : World) :
    Calls Tryd.prog 51 #[.agg #[.int .i64 a, .int .i64 b], .func (.func 57) #[] #[], .func (.func 59) #[] #[]] w fun e w' => e = .returned (.agg #[.int .i64 (mxC a b), .int .i64 (ptA a b), .int .i64 (ptB a b)]) ∧ Below w.heap.size w w' := by
  refine (by_calls 57 59 (wd a && wd b) a b _ _ w Tryd.call57 Tryd.call59 (fun W => isWide_calls a b W) (fun h W => parted_calls a b W (of_inB (by simp at h; exact h.1)) (of_inB (by simp at h; exact h.2)))).mono ?_
  rintro e w' ⟨rfl, hb⟩
  refine ⟨?_, hb⟩
  cases hw : (wd a && wd b)
  · rw [if_neg (by decide), if_neg (by decide), if_neg (by decide)]
    obtain ⟨g1, _, g3⟩ := mx_no hw; rw [g1, g3.1, g3.2]
  · rw [if_pos rfl, if_pos rfl, if_pos rfl]
    obtain ⟨g1, _, g3⟩ := mx_yes hw; rw [g1, g3.1, g3.2]
theorem implPartPair_calls (a b : Int) (w : World) :
    Calls Tryd.prog 19 #[.int .i64 a, .int .i64 b] w fun e w' => e = .returned (.agg #[.int .i64 (mxC a b), .int .i64 (ptA a b), .int .i64 (ptB a b)]) ∧ Below w.heap.size w w' := by
  have HF := hid (by_parted a b)
  have HP := hid pairOf_calls
  generalize mxC a b = c at *
  generalize ptA a b = xa at *
  generalize ptB a b = xb at *
  go_enter Tryd.func19, Tryd.ntmps19
  go_wp2_with fail
  refine (HP.out _ _ _).mono ?_
  rintro e w0 ⟨rfl, hb0⟩
  have HB0 := hid ((Blk.new w #[.int .i64 0, .int .i64 0, .int .i64 0] 27).later hb0)
  have HL0 := hid (bthen (bmore (Below.refl _ w) _) hb0)
  clear hb0
  go_wp2_with fail
  refine (HF.out _).mono ?_
  rintro e w1 ⟨rfl, hb1⟩
  have HB := hid (HB0.out.later hb1)
  have HL := hid (bthen HL0.out hb1)
  obtain ⟨c0, c1, c2, f0, f1, f2⟩ := HB.out.three
  clear hb1 HF HB0 HL0
  go_wp2
  exact bodyPost_ret (v := .agg #[.int .i64 c, .int .i64 xa, .int .i64 xb]) (by simp [results, Tryd.results19, go_sem, c0, c1, c2]) rfl ⟨rfl, below_cell (below_cell (below_cell HL.out (Nat.le_refl _) _ _) (Nat.le_refl _) _ _) (Nat.le_refl _) _ _⟩
theorem by_bounds (a b : Int) (w : World) :
    Calls Tryd.prog 51 #[.agg #[.int .i64 a, .int .i64 b], .func (.func 48) #[] #[], .func (.func 52) #[] #[]] w fun e w' => e = .returned (.agg #[.int .i64 (pbC a b), .int .i64 (pbE a b), .int .i64 (pbE a b)]) ∧ Below w.heap.size w w' := by
  refine (by_calls 48 52 (bdB a && bdB b) a b _ _ w Tryd.call48 Tryd.call52 (fun W => isBounds_calls a b W) (fun h W => partedBounds_calls a b W (of_inB (by simp at h; exact h.1)) (of_inB (by simp at h; exact h.2)))).mono ?_
  rintro e w' ⟨rfl, hb⟩
  refine ⟨?_, hb⟩
  cases hw : (bdB a && bdB b)
  · rw [if_neg (by decide), if_neg (by decide)]
    have h1 : pbC a b = 3 := if_neg (by rw [hw]; simp); have h2 : pbE a b = 0 := if_neg (by rw [hw]; simp); rw [h1, h2]
  · rw [if_pos rfl, if_pos rfl]
    have h1 : pbC a b = 0 := if_pos hw; have h2 : pbE a b = a + ceilV b 2 := if_pos hw; rw [h1, h2]
theorem implPartBounds_calls (a b : Int) (w : World) :
    Calls Tryd.prog 13 #[.int .i64 a, .int .i64 b] w fun e w' => e = .returned (.agg #[.int .i64 (pbC a b), .int .i64 (pbE a b), .int .i64 (pbE a b)]) ∧ Below w.heap.size w w' := by
  have HF := hid (by_bounds a b)
  have HP := hid pairOf_calls
  generalize pbC a b = c at *
  generalize pbE a b = xa at *
  skip
  go_enter Tryd.func13, Tryd.ntmps13
  go_wp2_with fail
  refine (HP.out _ _ _).mono ?_
  rintro e w0 ⟨rfl, hb0⟩
  have HB0 := hid ((Blk.new w #[.int .i64 0, .int .i64 0, .int .i64 0] 27).later hb0)
  have HL0 := hid (bthen (bmore (Below.refl _ w) _) hb0)
  clear hb0
  go_wp2_with fail
  refine (HF.out _).mono ?_
  rintro e w1 ⟨rfl, hb1⟩
  have HB := hid (HB0.out.later hb1)
  have HL := hid (bthen HL0.out hb1)
  obtain ⟨c0, c1, c2, f0, f1, f2⟩ := HB.out.three
  clear hb1 HF HB0 HL0
  go_wp2
  exact bodyPost_ret (v := .agg #[.int .i64 c, .int .i64 xa, .int .i64 xa]) (by simp [results, Tryd.results13, go_sem, c0, c1, c2]) rfl ⟨rfl, below_cell (below_cell (below_cell HL.out (Nat.le_refl _) _ _) (Nat.le_refl _) _ _) (Nat.le_refl _) _ _⟩
end Go.Proofs.YtbakmphopgkpmaaDoor.MixP
