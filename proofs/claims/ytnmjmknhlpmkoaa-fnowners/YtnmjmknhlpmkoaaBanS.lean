/- The model's LowCount, PulsesFor, GainRung, OwnerOf. No conditions. -/
import Derived.Test.YtnmjmknhlpmkoaaBanM
import Derived.Test.YtnmjmknhlpmkoaaLadS
import Derived.Test.YtnmjmknhlpmkoaaDraws
namespace Go.Proofs.Ytnmjmknhlpmkoaa.BanS
open Go.ChangeShapes Go.WideShapes Go.ChangeAt Go.RowKit Go.Proofs.Ytnmjmknhlpmkoaa.Num Go.Proofs.Ytnmjmknhlpmkoaa.Div Go.Proofs.Ytnmjmknhlpmkoaa.Samp Go.Proofs.Ytnmjmknhlpmkoaa.Sli Go.Proofs.Ytnmjmknhlpmkoaa.Blk Go.Proofs.Ytnmjmknhlpmkoaa.LadM Go.Proofs.Ytnmjmknhlpmkoaa.LadS Go.Proofs.Ytnmjmknhlpmkoaa.BanM
open Go.Proofs.Ytnmjmknhlpmkoaa.Draws (l1Min_calls)

theorem l13Is_calls (m : Int) (w : World) : Calls Try.prog 27 #[.int .i64 m] w fun e w' => e = .returned (.bool (mkB m)) ∧ w' = w := by
  have HI := hid (l1In_calls m 0 3)
  go_enter Try.func27, Try.ntmps27
  go_wp2_with (go_at_call 25; refine (HI.out _).mono ?_; rintro e w' ⟨rfl, rfl⟩)
  go_ret
  exact ⟨rfl, rfl⟩
theorem specPulsesFor_calls (m : Int) (w : World) : Calls Try.prog 15 #[.int .i64 m] w fun e w' => e = .returned (.agg #[.int .i64 (pqC m), .int .i64 (pqV m)]) ∧ Below w.heap.size w w' := by
  have HS := hid (l13Is_calls m)
  cases h : mkB m
  · have H : Hid (3 = pqC m ∧ 0 = pqV m) := ⟨(if_neg (by rw [h]; decide)).symm, (if_neg (by rw [h]; decide)).symm⟩
    rw [h] at HS
    clear h
    go_enter Try.func15, Try.ntmps15
    go_wp2_with fail
    refine (HS.out _).mono ?_
    rintro e w' ⟨rfl, rfl⟩
    go_wp2
    exact bodyPost_ret (v := .agg #[.int .i64 3, .int .i64 0]) (by simp [results, Try.results15, go_sem]) rfl ⟨ret_two H.out.1 H.out.2, bmore (Below.refl _ _) _⟩
  · have H : Hid (0 = pqC m ∧ 8 - 2 * m = pqV m) := ⟨(if_pos h).symm, (if_pos h).symm⟩
    have hb := of_inB h
    rw [h] at HS
    clear h
    go_enter Try.func15, Try.ntmps15
    go_wp2_with fail
    refine (HS.out _).mono ?_
    rintro e w' ⟨rfl, rfl⟩
    go_wp2
    exact bodyPost_ret (v := .agg #[.int .i64 0, .int .i64 (8 - 2 * m)]) (by simp [results, Try.results15, go_sem]) rfl ⟨ret_two H.out.1 H.out.2, bmore (Below.refl _ _) _⟩
theorem l13Rung_calls (r m : Int) (hr : 0 ≤ r ∧ r ≤ 47) (hm : 0 ≤ m ∧ m ≤ 3) (w : World) : Calls Try.prog 28 #[.int .i64 r, .int .i64 m] w fun e w' => e = .returned (.int .i64 (min 47 (r + 2 * m))) ∧ w' = w := by
  have HM := hid (l1Min_calls 47 (r + 2 * m))
  go_enter Try.func28, Try.ntmps28
  go_wp2_with fail
  refine (HM.out _).mono ?_
  rintro e w' ⟨rfl, rfl⟩
  go_wp2
  go_ret
  exact ⟨rfl, rfl⟩
theorem specGainRung_calls (r m : Int) (w : World) : Calls Try.prog 14 #[.int .i64 r, .int .i64 m] w fun e w' => e = .returned (.agg #[.int .i64 (grC r m), .int .i64 (grV r m)]) ∧ Below w.heap.size w w' := by
  have HA := hid (l9Rung_calls r)
  have HB := hid (l13Is_calls m)
  cases ha : rgB r
  · have ho : grO r m = false := by unfold grO; rw [ha]; rfl
    have H : Hid (3 = grC r m ∧ 0 = grV r m) := ⟨(if_neg (by rw [ho]; decide)).symm, (if_neg (by rw [ho]; decide)).symm⟩
    rw [ha] at HA
    clear ha ho HB
    go_enter Try.func14, Try.ntmps14
    go_wp2_with fail
    refine (HA.out _).mono ?_
    rintro e w' ⟨rfl, rfl⟩
    go_wp2
    exact bodyPost_ret (v := .agg #[.int .i64 3, .int .i64 0]) (by simp [results, Try.results14, go_sem]) rfl ⟨ret_two H.out.1 H.out.2, bmore (Below.refl _ _) _⟩
  · rw [ha] at HA
    cases hb : mkB m
    · have ho : grO r m = false := by unfold grO; rw [hb, Bool.and_false]
      have H : Hid (3 = grC r m ∧ 0 = grV r m) := ⟨(if_neg (by rw [ho]; decide)).symm, (if_neg (by rw [ho]; decide)).symm⟩
      rw [hb] at HB
      clear ha hb ho
      go_enter Try.func14, Try.ntmps14
      go_wp2_with fail
      refine (HA.out _).mono ?_
      rintro e w' ⟨rfl, rfl⟩
      go_wp2_with fail
      refine (HB.out _).mono ?_
      rintro e w' ⟨rfl, rfl⟩
      go_wp2
      exact bodyPost_ret (v := .agg #[.int .i64 3, .int .i64 0]) (by simp [results, Try.results14, go_sem]) rfl ⟨ret_two H.out.1 H.out.2, bmore (Below.refl _ _) _⟩
    · have ho : grO r m = true := by unfold grO; rw [ha, hb]; rfl
      have h1 := of_inB ha
      have h2 := of_inB hb
      have H : Hid (0 = grC r m ∧ min 47 (r + 2 * m) = grV r m) := ⟨(if_pos ho).symm, (if_pos ho).symm⟩
      have HR := hid (l13Rung_calls r m h1 h2)
      rw [hb] at HB
      clear ha hb ho
      generalize min 47 (r + 2 * m) = x at *
      go_enter Try.func14, Try.ntmps14
      go_wp2_with fail
      refine (HA.out _).mono ?_
      rintro e w' ⟨rfl, rfl⟩
      go_wp2_with fail
      refine (HB.out _).mono ?_
      rintro e w' ⟨rfl, rfl⟩
      go_wp2_with fail
      refine (HR.out _).mono ?_
      rintro e w' ⟨rfl, rfl⟩
      go_wp2
      exact bodyPost_ret (v := .agg #[.int .i64 0, .int .i64 x]) (by simp [results, Try.results14, go_sem]) rfl ⟨ret_two H.out.1 H.out.2, bmore (Below.refl _ _) _⟩
theorem specOwnerOf_calls (a b : Int) (w : World) : Calls Try.prog 13 #[.int .i64 a, .int .i64 b] w fun e w' => e = .returned (.agg #[.int .i64 (owC a b), .int .i64 (owV a b)]) ∧ Below w.heap.size w w' := by
  have HA := hid (l1In_calls a 0 9999)
  have HB := hid (l1In_calls b 0 1)
  cases ha : inB 0 9999 a
  · have ho : owO a b = false := by unfold owO; rw [ha]; rfl
    have H : Hid (3 = owC a b ∧ 0 = owV a b) := ⟨(if_neg (by rw [ho]; decide)).symm, (if_neg (by rw [ho]; decide)).symm⟩
    rw [ha] at HA
    clear ha ho HB
    go_enter Try.func13, Try.ntmps13
    go_wp2_with fail
    refine (HA.out _).mono ?_
    rintro e w' ⟨rfl, rfl⟩
    go_wp2
    exact bodyPost_ret (v := .agg #[.int .i64 3, .int .i64 0]) (by simp [results, Try.results13, go_sem]) rfl ⟨ret_two H.out.1 H.out.2, bmore (Below.refl _ _) _⟩
  · rw [ha] at HA
    cases hb : inB 0 1 b
    · have ho : owO a b = false := by unfold owO; rw [hb, Bool.and_false]
      have H : Hid (3 = owC a b ∧ 0 = owV a b) := ⟨(if_neg (by rw [ho]; decide)).symm, (if_neg (by rw [ho]; decide)).symm⟩
      rw [hb] at HB
      clear ha hb ho
      go_enter Try.func13, Try.ntmps13
      go_wp2_with fail
      refine (HA.out _).mono ?_
      rintro e w' ⟨rfl, rfl⟩
      go_wp2_with fail
      refine (HB.out _).mono ?_
      rintro e w' ⟨rfl, rfl⟩
      go_wp2
      exact bodyPost_ret (v := .agg #[.int .i64 3, .int .i64 0]) (by simp [results, Try.results13, go_sem]) rfl ⟨ret_two H.out.1 H.out.2, bmore (Below.refl _ _) _⟩
    · have ho : owO a b = true := by unfold owO; rw [ha, hb]; rfl
      have h1 := of_inB ha
      have h2 := of_inB hb
      have H : Hid (0 = owC a b ∧ (a + b) % 2 = owV a b) := ⟨(if_pos ho).symm, (if_pos ho).symm⟩
      have ks : IntKind.i64.wrap (a + b) = a + b := wrapk_of (by omega) (by omega)
      rw [hb] at HB
      clear ha hb ho
      go_enter Try.func13, Try.ntmps13
      go_wp2_with fail
      refine (HA.out _).mono ?_
      rintro e w' ⟨rfl, rfl⟩
      go_wp2_with fail
      refine (HB.out _).mono ?_
      rintro e w' ⟨rfl, rfl⟩
      go_wp2
      exact bodyPost_ret (v := .agg #[.int .i64 0, .int .i64 ((a + b) % 2)]) (by simp [results, Try.results13, go_sem]) rfl ⟨ret_two H.out.1 H.out.2, bmore (Below.refl _ _) _⟩
end Go.Proofs.Ytnmjmknhlpmkoaa.BanS
