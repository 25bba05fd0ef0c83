/- MixPair, PartPair and PartBounds, the program's and the model's: what they return at every argument. No conditions. -/
import Derived.Test.YtcanknlelbomnaaMixI
import Derived.Test.YtcanknlelbomnaaGb
namespace Go.Proofs.Ytcanknlelbomnaa.MixP
open Go.ChangeShapes Go.WideShapes Go.ChangeAt Go.RowKit Go.Proofs.Ytcanknlelbomnaa.Num Go.Proofs.Ytcanknlelbomnaa.Sli Go.Proofs.Ytcanknlelbomnaa.Div Go.Proofs.Ytcanknlelbomnaa.Samp Go.Proofs.Ytcanknlelbomnaa.Blk Go.Proofs.Ytcanknlelbomnaa.TurM Go.Proofs.Ytcanknlelbomnaa.BndM Go.Proofs.Ytcanknlelbomnaa.Par Go.Proofs.Ytcanknlelbomnaa.MixS Go.Proofs.Ytcanknlelbomnaa.MixI

set_option maxRecDepth 100000 in
set_option maxHeartbeats 2000000 in
/-- What is asked by a function that is handed in, and then done by another one. -/
theorem by_calls (nF nW : FuncId) (bt : Bool) (a b xa xb : Int) (w : World)
    (qF : ∀ args w, (callFunc nF args).run Try.prog w = .ok (.enter nF args) w) (qW : ∀ args w, (callFunc nW args).run Try.prog w = .ok (.enter nW args) w)
    (hF : ∀ W, Calls Try.prog nF #[.agg #[.int .i64 a, .int .i64 b]] W fun e w' => e = .returned (.bool bt) ∧ Below W.heap.size W w')
    (hW : bt = true → ∀ W, Calls Try.prog nW #[.agg #[.int .i64 a, .int .i64 b]] W fun e w' => e = .returned (.agg #[.int .i64 xa, .int .i64 xb]) ∧ Below W.heap.size W w') :
    Calls Try.prog 17 #[.agg #[.int .i64 a, .int .i64 b], .func (.func nF) #[] #[], .func (.func nW) #[] #[]] w fun e w' => e = .returned (.agg #[.int .i64 (if bt = true then 0 else 3), .int .i64 (if bt = true then xa else 0), .int .i64 (if bt = true then xb else 0)]) ∧ Below w.heap.size w w' := by
  have HR := hid result_calls
  have HW1 := hid hF
  cases bt
  · rw [if_neg (by decide), if_neg (by decide), if_neg (by decide)]
    clear HR hF hW
    go_enter Try.func17, Try.ntmps17
    go_wp2_with fail
    refine (HW1.out _).mono ?_
    rintro e w2 ⟨rfl, hb2⟩
    obtain ⟨_, hB2, hL2, _⟩ := boxes2 hb2
    obtain ⟨c0, c1, c2, f0, f1, f2⟩ := hB2.three
    have HL2 := hid hL2
    clear hb2 HW1 hB2 hL2
    go_wp2
    exact bodyPost_ret (v := .agg #[.int .i64 3, .int .i64 0, .int .i64 0]) (by simp [results, Try.results17, go_sem, c0, c1, c2]) rfl ⟨rfl, below_cell (below_cell (below_cell HL2.out (by omega) _ _) (by omega) _ _) (by omega) _ _⟩
  · rw [if_pos rfl, if_pos rfl, if_pos rfl]
    have HA := hid (hW rfl)
    clear hF hW
    go_enter Try.func17, Try.ntmps17
    go_wp2_with fail
    refine (HW1.out _).mono ?_
    rintro e w2 ⟨rfl, hb2⟩
    obtain ⟨hV2, hB2, hL2, _⟩ := boxes2 hb2
    have HB2 := hid hB2
    have HL2 := hid hL2
    obtain ⟨v0, v1, _, _⟩ := hV2.two
    clear hb2 HW1 hV2 hB2 hL2
    go_wp2_with fail
    refine (HA.out _).mono ?_
    rintro e w3 ⟨rfl, hb3⟩
    have HB3 := hid (HB2.out.later hb3)
    have HL3 := hid (bthen HL2.out hb3)
    clear HB2 HL2 hb3 HA v0 v1
    go_wp2_with fail
    refine (HR.out _ _ _).mono ?_
    rintro e w4 ⟨rfl, hb4⟩
    have HB4 := hid (HB3.out.later hb4)
    have HL4 := hid (bthen HL3.out hb4)
    obtain ⟨c0, c1, c2, f0, f1, f2⟩ := HB4.out.three
    clear HB3 HL3 hb4
    go_wp2
    exact bodyPost_ret (v := .agg #[.int .i64 0, .int .i64 xa, .int .i64 xb]) (by simp [results, Try.results17, go_sem, c0, c1, c2]) rfl ⟨rfl, below_cell (below_cell (below_cell HL4.out (by omega) _ _) (by omega) _ _) (by omega) _ _⟩
theorem by_mixed (a b : Int) (w : World) :
    Calls Try.prog 17 #[.agg #[.int .i64 a, .int .i64 b], .func (.func 19) #[] #[], .func (.func 20) #[] #[]] w fun e w' => e = .returned (.agg #[.int .i64 (mxC a b), .int .i64 (mxA a b), .int .i64 (mxB a b)]) ∧ Below w.heap.size w w' := by
  refine (by_calls 19 20 (wd a && wd b) a b _ _ w Try.call19 Try.call20 (fun W => isWide_calls a b W) (fun h W => mixed_calls a b W (of_inB (by simp at h; exact h.1)) (of_inB (by simp at h; exact h.2)))).mono ?_
  rintro e w' ⟨rfl, hb⟩
  refine ⟨?_, hb⟩
  cases hw : (wd a && wd b)
  · rw [if_neg (by decide), if_neg (by decide), if_neg (by decide)]
    obtain ⟨g1, g2, _⟩ := mx_no hw; rw [g1, g2.1, g2.2]
  · rw [if_pos rfl, if_pos rfl, if_pos rfl]
    obtain ⟨g1, g2, _⟩ := mx_yes hw; rw [g1, g2.1, g2.2]
theorem implMixPair_calls (a b : Int) (w : World) :
    Calls Try.prog 9 #[.int .i64 a, .int .i64 b] w fun e w' => e = .returned (.agg #[.int .i64 (mxC a b), .int .i64 (mxA a b), .int .i64 (mxB a b)]) ∧ Below w.heap.size w w' := by
  have HF := hid (by_mixed a b)
  have HP := hid pairOf_calls
  generalize mxC a b = c at *
  generalize mxA a b = xa at *
  generalize mxB a b = xb at *
  go_enter Try.func9, Try.ntmps9
  go_wp2_with fail
  refine (HP.out _ _ _).mono ?_
  rintro e w0 ⟨rfl, hb0⟩
  have HB0 := hid ((Blk.new w #[.int .i64 0, .int .i64 0, .int .i64 0] 27).later hb0)
  have HL0 := hid (bthen (bmore (Below.refl _ w) _) hb0)
  clear hb0
  go_wp2_with fail
  refine (HF.out _).mono ?_
  rintro e w1 ⟨rfl, hb1⟩
  have HB := hid (HB0.out.later hb1)
  have HL := hid (bthen HL0.out hb1)
  obtain ⟨c0, c1, c2, f0, f1, f2⟩ := HB.out.three
  clear hb1 HF HB0 HL0
  go_wp2
  exact bodyPost_ret (v := .agg #[.int .i64 c, .int .i64 xa, .int .i64 xb]) (by simp [results, Try.results9, go_sem, c0, c1, c2]) rfl ⟨rfl, below_cell (below_cell (below_cell HL.out (Nat.le_refl _) _ _) (Nat.le_refl _) _ _) (Nat.le_refl _) _ _⟩
theorem specMixPair_calls (a b : Int) (w : World) :
    Calls Try.prog 11 #[.int .i64 a, .int .i64 b] w fun e w' => e = .returned (.agg #[.int .i64 (mxC a b), .int .i64 (mxA a b), .int .i64 (mxB a b)]) ∧ Below w.heap.size w w' := by
  have HW1 := hid (l5Wide_calls a b)
  cases hw : (wd a && wd b)
  · have HE : Hid (mxC a b = 3 ∧ mxA a b = 0 ∧ mxB a b = 0) := by
      obtain ⟨g1, g2, _⟩ := mx_no hw
      exact ⟨g1, g2.1, g2.2⟩
    rw [hw] at HW1
    clear hw
    go_enter Try.func11, Try.ntmps11
    go_wp2_with (go_at_call 22; refine (HW1.out _).mono ?_; rintro e w' ⟨rfl, rfl⟩)
    exact bodyPost_ret (v := .agg #[.int .i64 3, .int .i64 0, .int .i64 0]) (by simp [results, Try.results11, go_sem]) rfl ⟨by rw [HE.out.1, HE.out.2.1, HE.out.2.2], bmore (Below.refl _ _) _⟩
  · have HE : Hid (mxC a b = 0 ∧ mxA a b = b + (a - b) / 2 ∧ mxB a b = a - b) := by
      obtain ⟨g1, g2, _⟩ := mx_yes hw
      exact ⟨g1, g2.1, g2.2⟩
    rw [hw] at HW1
    have hab : wd a = true ∧ wd b = true := by simpa using hw
    have HA := hid (fun W => l5Mix_calls a b W (of_inB hab.1) (of_inB hab.2))
    clear hw hab
    generalize b + (a - b) / 2 = xa at *
    generalize a - b = xb at *
    go_enter Try.func11, Try.ntmps11
    go_wp2_with (first | (go_at_call 22; refine (HW1.out _).mono ?_; rintro e w' ⟨rfl, rfl⟩) | (go_at_call 23; refine (HA.out _).mono ?_; rintro e w' ⟨rfl, rfl⟩))
    exact bodyPost_ret (v := .agg #[.int .i64 0, .int .i64 xa, .int .i64 xb]) (by simp [results, Try.results11, go_sem]) rfl ⟨by rw [HE.out.1, HE.out.2.1, HE.out.2.2], bmore (Below.refl _ _) _⟩
theorem by_parted (a b : Int) (w : World) :
    Calls Try.prog 17 #[.agg #[.int .i64 a, .int .i64 b], .func (.func 19) #[] #[], .func (.func 21) #[] #[]] w fun e w' => e = .returned (.agg #[.int .i64 (mxC a b), .int .i64 (ptA a b), .int .i64 (ptB a b)]) ∧ Below w.heap.size w w' := by
  refine (by_calls 19 21 (wd a && wd b) a b _ _ w Try.call19 Try.call21 (fun W => isWide_calls a b W) (fun h W => parted_calls a b W (of_inB (by simp at h; exact h.1)) (of_inB (by simp at h; exact h.2)))).mono ?_
  rintro e w' ⟨rfl, hb⟩
  refine ⟨?_, hb⟩
  cases hw : (wd a && wd b)
  · rw [if_neg (by decide), if_neg (by decide), if_neg (by decide)]
    obtain ⟨g1, _, g3⟩ := mx_no hw; rw [g1, g3.1, g3.2]
  · rw [if_pos rfl, if_pos rfl, if_pos rfl]
    obtain ⟨g1, _, g3⟩ := mx_yes hw; rw [g1, g3.1, g3.2]
theorem implPartPair_calls (a b : Int) (w : World) :
    Calls Try.prog 10 #[.int .i64 a, .int .i64 b] w fun e w' => e = .returned (.agg #[.int .i64 (mxC a b), .int .i64 (ptA a b), .int .i64 (ptB a b)]) ∧ Below w.heap.size w w' := by
  have HF := hid (by_parted a b)
  have HP := hid pairOf_calls
  generalize mxC a b = c at *
  generalize ptA a b = xa at *
  generalize ptB a b = xb at *
  go_enter Try.func10, Try.ntmps10
  go_wp2_with fail
  refine (HP.out _ _ _).mono ?_
  rintro e w0 ⟨rfl, hb0⟩
  have HB0 := hid ((Blk.new w #[.int .i64 0, .int .i64 0, .int .i64 0] 27).later hb0)
  have HL0 := hid (bthen (bmore (Below.refl _ w) _) hb0)
  clear hb0
  go_wp2_with fail
  refine (HF.out _).mono ?_
  rintro e w1 ⟨rfl, hb1⟩
  have HB := hid (HB0.out.later hb1)
  have HL := hid (bthen HL0.out hb1)
  obtain ⟨c0, c1, c2, f0, f1, f2⟩ := HB.out.three
  clear hb1 HF HB0 HL0
  go_wp2
  exact bodyPost_ret (v := .agg #[.int .i64 c, .int .i64 xa, .int .i64 xb]) (by simp [results, Try.results10, go_sem, c0, c1, c2]) rfl ⟨rfl, below_cell (below_cell (below_cell HL.out (Nat.le_refl _) _ _) (Nat.le_refl _) _ _) (Nat.le_refl _) _ _⟩
theorem by_bounds (a b : Int) (w : World) :
    Calls Try.prog 17 #[.agg #[.int .i64 a, .int .i64 b], .func (.func 27) #[] #[], .func (.func 28) #[] #[]] w fun e w' => e = .returned (.agg #[.int .i64 (pbC a b), .int .i64 (pbE a b), .int .i64 (pbE a b)]) ∧ Below w.heap.size w w' := by
  refine (by_calls 27 28 (bdB a && bdB b) a b _ _ w Try.call27 Try.call28 (fun W => isBounds_calls a b W) (fun h W => partedBounds_calls a b W (of_inB (by simp at h; exact h.1)) (of_inB (by simp at h; exact h.2)))).mono ?_
  rintro e w' ⟨rfl, hb⟩
  refine ⟨?_, hb⟩
  cases hw : (bdB a && bdB b)
  · rw [if_neg (by decide), if_neg (by decide)]
    have h1 : pbC a b = 3 := if_neg (by rw [hw]; simp); have h2 : pbE a b = 0 := if_neg (by rw [hw]; simp); rw [h1, h2]
  · rw [if_pos rfl, if_pos rfl]
    have h1 : pbC a b = 0 := if_pos hw; have h2 : pbE a b = a + ceilV b 2 := if_pos hw; rw [h1, h2]
theorem implPartBounds_calls (a b : Int) (w : World) :
    Calls Try.prog 15 #[.int .i64 a, .int .i64 b] w fun e w' => e = .returned (.agg #[.int .i64 (pbC a b), .int .i64 (pbE a b), .int .i64 (pbE a b)]) ∧ Below w.heap.size w w' := by
  have HF := hid (by_bounds a b)
  have HP := hid pairOf_calls
  generalize pbC a b = c at *
  generalize pbE a b = xa at *
  skip
  go_enter Try.func15, Try.ntmps15
  go_wp2_with fail
  refine (HP.out _ _ _).mono ?_
  rintro e w0 ⟨rfl, hb0⟩
  have HB0 := hid ((Blk.new w #[.int .i64 0, .int .i64 0, .int .i64 0] 27).later hb0)
  have HL0 := hid (bthen (bmore (Below.refl _ w) _) hb0)
  clear hb0
  go_wp2_with fail
  refine (HF.out _).mono ?_
  rintro e w1 ⟨rfl, hb1⟩
  have HB := hid (HB0.out.later hb1)
  have HL := hid (bthen HL0.out hb1)
  obtain ⟨c0, c1, c2, f0, f1, f2⟩ := HB.out.three
  clear hb1 HF HB0 HL0
  go_wp2
  exact bodyPost_ret (v := .agg #[.int .i64 c, .int .i64 xa, .int .i64 xa]) (by simp [results, Try.results15, go_sem, c0, c1, c2]) rfl ⟨rfl, below_cell (below_cell (below_cell HL.out (Nat.le_refl _) _ _) (Nat.le_refl _) _ _) (Nat.le_refl _) _ _⟩
theorem specPartPair_calls (a b : Int) (w : World) :
    Calls Try.prog 12 #[.int .i64 a, .int .i64 b] w fun e w' => e = .returned (.agg #[.int .i64 (mxC a b), .int .i64 (ptA a b), .int .i64 (ptB a b)]) ∧ Below w.heap.size w w' := by
  have HW1 := hid (l5Wide_calls a b)
  cases hw : (wd a && wd b)
  · have HE : Hid (mxC a b = 3 ∧ ptA a b = 0 ∧ ptB a b = 0) := by
      obtain ⟨g1, _, g3⟩ := mx_no hw
      exact ⟨g1, g3.1, g3.2⟩
    rw [hw] at HW1
    clear hw
    go_enter Try.func12, Try.ntmps12
    go_wp2_with (go_at_call 22; refine (HW1.out _).mono ?_; rintro e w' ⟨rfl, rfl⟩)
    exact bodyPost_ret (v := .agg #[.int .i64 3, .int .i64 0, .int .i64 0]) (by simp [results, Try.results12, go_sem]) rfl ⟨by rw [HE.out.1, HE.out.2.1, HE.out.2.2], bmore (Below.refl _ _) _⟩
  · have HE : Hid (mxC a b = 0 ∧ ptA a b = a - b / 2 + b ∧ ptB a b = a - b / 2) := by
      obtain ⟨g1, _, g3⟩ := mx_yes hw
      exact ⟨g1, g3.1, g3.2⟩
    rw [hw] at HW1
    have hab : wd a = true ∧ wd b = true := by simpa using hw
    have HA := hid (fun W => l5Part_calls a b W (of_inB hab.1) (of_inB hab.2))
    clear hw hab
    generalize a - b / 2 + b = xa at *
    generalize a - b / 2 = xb at *
    go_enter Try.func12, Try.ntmps12
    go_wp2_with (first | (go_at_call 22; refine (HW1.out _).mono ?_; rintro e w' ⟨rfl, rfl⟩) | (go_at_call 24; refine (HA.out _).mono ?_; rintro e w' ⟨rfl, rfl⟩))
    exact bodyPost_ret (v := .agg #[.int .i64 0, .int .i64 xa, .int .i64 xb]) (by simp [results, Try.results12, go_sem]) rfl ⟨by rw [HE.out.1, HE.out.2.1, HE.out.2.2], bmore (Below.refl _ _) _⟩
end Go.Proofs.Ytcanknlelbomnaa.MixP
