/- The program's PulsesFor, GainRung, OwnerOf. No conditions. -/
import Derived.Test.YtnmjmknhlpmkoaaBanM
import Derived.Test.YtnmjmknhlpmkoaaLadI
namespace Go.Proofs.Ytnmjmknhlpmkoaa.BanI
open Go.ChangeShapes Go.WideShapes Go.ChangeAt Go.RowKit Go.Proofs.Ytnmjmknhlpmkoaa.Num Go.Proofs.Ytnmjmknhlpmkoaa.Div Go.Proofs.Ytnmjmknhlpmkoaa.Samp Go.Proofs.Ytnmjmknhlpmkoaa.Sli Go.Proofs.Ytnmjmknhlpmkoaa.App Go.Proofs.Ytnmjmknhlpmkoaa.Blk Go.Proofs.Ytnmjmknhlpmkoaa.LadM Go.Proofs.Ytnmjmknhlpmkoaa.LadI Go.Proofs.Ytnmjmknhlpmkoaa.BanM

theorem isMask_calls (m : Int) (w : World) : Calls Try.prog 24 #[.int .i64 m] w fun e w' => e = .returned (.bool (mkB m)) ∧ w' = w := by
  have HI := hid (isWithin_calls m 0 3)
  go_enter Try.func24, Try.ntmps24
  go_wp2_with (go_at_call 29; refine (HI.out _).mono ?_; rintro e w' ⟨rfl, rfl⟩)
  go_ret
  exact ⟨rfl, rfl⟩
theorem isBlockNumber_calls (m : Int) (w : World) : Calls Try.prog 20 #[.int .i64 m] w fun e w' => e = .returned (.bool (inB 0 9999 m)) ∧ w' = w := by
  have HI := hid (isWithin_calls m 0 9999)
  go_enter Try.func20, Try.ntmps20
  go_wp2_with (go_at_call 29; refine (HI.out _).mono ?_; rintro e w' ⟨rfl, rfl⟩)
  go_ret
  exact ⟨rfl, rfl⟩
theorem isBand_calls (m : Int) (w : World) : Calls Try.prog 21 #[.int .i64 m] w fun e w' => e = .returned (.bool (inB 0 1 m)) ∧ w' = w := by
  have HI := hid (isWithin_calls m 0 1)
  go_enter Try.func21, Try.ntmps21
  go_wp2_with (go_at_call 29; refine (HI.out _).mono ?_; rintro e w' ⟨rfl, rfl⟩)
  go_ret
  exact ⟨rfl, rfl⟩
theorem implPulsesFor_calls (m : Int) (w : World) : Calls Try.prog 12 #[.int .i64 m] w fun e w' => e = .returned (.agg #[.int .i64 (pqC m), .int .i64 (pqV m)]) ∧ Below w.heap.size w w' := by
  have HS := hid (isMask_calls m)
  cases h : mkB m
  · have H : Hid (3 = pqC m ∧ 0 = pqV m) := ⟨(if_neg (by rw [h]; decide)).symm, (if_neg (by rw [h]; decide)).symm⟩
    rw [h] at HS
    clear h
    go_enter Try.func12, Try.ntmps12
    go_wp2_with fail
    refine (HS.out _).mono ?_
    rintro e w' ⟨rfl, rfl⟩
    go_wp2
    exact bodyPost_ret (v := .agg #[.int .i64 3, .int .i64 0]) (by simp [results, Try.results12, go_sem]) rfl ⟨ret_two H.out.1 H.out.2, bmore (Below.refl _ _) _⟩
  · have H : Hid (0 = pqC m ∧ 8 - 2 * m = pqV m) := ⟨(if_pos h).symm, (if_pos h).symm⟩
    have hb := of_inB h
    rw [h] at HS
    clear h
    go_enter Try.func12, Try.ntmps12
    go_wp2_with fail
    refine (HS.out _).mono ?_
    rintro e w' ⟨rfl, rfl⟩
    go_wp2
    exact bodyPost_ret (v := .agg #[.int .i64 0, .int .i64 (8 - 2 * m)]) (by simp [results, Try.results12, go_sem]) rfl ⟨ret_two H.out.1 H.out.2, bmore (Below.refl _ _) _⟩
theorem fieldI0 (c a : Value) (w : World) : (Instr.field 27 (.agg #[c, a]) 0).run Try.prog w = .ok c w := by kernel_rfl
theorem implGainRung_calls (r m : Int) (w : World) : Calls Try.prog 11 #[.int .i64 r, .int .i64 m] w fun e w' => e = .returned (.agg #[.int .i64 (grC r m), .int .i64 (grV r m)]) ∧ Below w.heap.size w w' := by
  have hf0 := fieldI0
  have HA := hid (implStepOf_calls r (w.alloc (.cells #[.int .i64 0, .int .i64 0] 27)))
  have HB := hid (isMask_calls m)
  have HK := hid (Blk.new w #[.int .i64 0, .int .i64 0] 27)
  have HL := hid (bmore (Below.refl _ w) (.cells #[.int .i64 0, .int .i64 0] 27))
  cases ha : rgB r
  · have ho : grO r m = false := by unfold grO; rw [ha]; rfl
    have H : Hid (3 = grC r m ∧ 0 = grV r m) := ⟨(if_neg (by rw [ho]; decide)).symm, (if_neg (by rw [ho]; decide)).symm⟩
    rw [(so_no ha).1, (so_no ha).2] at HA
    clear ha ho HB
    go_enter Try.func11, Try.ntmps11
    go_wp2_with fail
    refine HA.out.mono ?_
    rintro e w1 ⟨rfl, hb⟩
    have hK := HK.out.later hb
    obtain ⟨c0, c1, f0, f1⟩ := hK.two
    have HB := hid (below_set2 (bthen HL.out hb) (.int .i64 3) (.int .i64 0))
    clear hK hb HA
    go_wp2
    exact bodyPost_ret (v := .agg #[.int .i64 3, .int .i64 0]) (by simp [results, Try.results11, go_sem, c0, c1]) rfl ⟨ret_two H.out.1 H.out.2, HB.out⟩
  · obtain ⟨e1, e2⟩ := so_yes ha
    rw [e1, e2] at HA
    generalize stV r = sv at *
    clear e1 e2
    cases hm : mkB m
    · have ho : grO r m = false := by unfold grO; rw [hm, Bool.and_false]
      have H : Hid (3 = grC r m ∧ 0 = grV r m) := ⟨(if_neg (by rw [ho]; decide)).symm, (if_neg (by rw [ho]; decide)).symm⟩
      rw [hm] at HB
      clear ha hm ho
      go_enter Try.func11, Try.ntmps11
      go_wp2_with fail
      refine HA.out.mono ?_
      rintro e w1 ⟨rfl, hb⟩
      have hK := HK.out.later hb
      obtain ⟨c0, c1, f0, f1⟩ := hK.two
      have HR := hid (below_set2 (bthen HL.out hb) (.int .i64 3) (.int .i64 0))
      clear hK hb HA
      go_wp2_with fail
      refine (HB.out _).mono ?_
      rintro e w' ⟨rfl, rfl⟩
      go_wp2
      exact bodyPost_ret (v := .agg #[.int .i64 3, .int .i64 0]) (by simp [results, Try.results11, go_sem, c0, c1]) rfl ⟨ret_two H.out.1 H.out.2, HR.out⟩
    · have ho : grO r m = true := by unfold grO; rw [hm, ha]; rfl
      have H : Hid (0 = grC r m ∧ min 47 (r + 2 * m) = grV r m) := ⟨(if_pos ho).symm, (if_pos ho).symm⟩
      have hr := of_inB ha
      have hb := of_inB hm
      rw [hm] at HB
      clear ha hm ho
      by_cases hc : 47 < r + 2 * m
      · have em : min 47 (r + 2 * m) = 47 := by omega
        rw [em] at H
        clear em
        go_enter Try.func11, Try.ntmps11
        go_wp2_with fail
        refine HA.out.mono ?_
        rintro e w1 ⟨rfl, hw⟩
        have hK := HK.out.later hw
        obtain ⟨c0, c1, f0, f1⟩ := hK.two
        have HR := hid (below_set2 (bthen HL.out hw) (.int .i64 0) (.int .i64 47))
        clear hK hw HA
        go_wp2_with fail
        refine (HB.out _).mono ?_
        rintro e w' ⟨rfl, rfl⟩
        go_wp2
        exact bodyPost_ret (v := .agg #[.int .i64 0, .int .i64 47]) (by simp [results, Try.results11, go_sem, c0, c1]) rfl ⟨ret_two H.out.1 H.out.2, HR.out⟩
      · have em : min 47 (r + 2 * m) = r + 2 * m := by omega
        rw [em] at H
        clear em
        go_enter Try.func11, Try.ntmps11
        go_wp2_with fail
        refine HA.out.mono ?_
        rintro e w1 ⟨rfl, hw⟩
        have hK := HK.out.later hw
        obtain ⟨c0, c1, f0, f1⟩ := hK.two
        have HR := hid (below_set2 (bthen HL.out hw) (.int .i64 0) (.int .i64 (r + 2 * m)))
        clear hK hw HA
        go_wp2_with fail
        refine (HB.out _).mono ?_
        rintro e w' ⟨rfl, rfl⟩
        go_wp2
        exact bodyPost_ret (v := .agg #[.int .i64 0, .int .i64 (r + 2 * m)]) (by simp [results, Try.results11, go_sem, c0, c1]) rfl ⟨ret_two H.out.1 H.out.2, HR.out⟩
theorem implOwnerOf_calls (a b : Int) (w : World) : Calls Try.prog 9 #[.int .i64 a, .int .i64 b] w fun e w' => e = .returned (.agg #[.int .i64 (owC a b), .int .i64 (owV a b)]) ∧ Below w.heap.size w w' := by
  have HA := hid (isBlockNumber_calls a)
  have HB := hid (isBand_calls b)
  cases ha : inB 0 9999 a
  · have ho : owO a b = false := by unfold owO; rw [ha]; rfl
    have H : Hid (3 = owC a b ∧ 0 = owV a b) := ⟨(if_neg (by rw [ho]; decide)).symm, (if_neg (by rw [ho]; decide)).symm⟩
    rw [ha] at HA
    clear ha ho HB
    go_enter Try.func9, Try.ntmps9
    go_wp2_with fail
    refine (HA.out _).mono ?_
    rintro e w' ⟨rfl, rfl⟩
    go_wp2
    exact bodyPost_ret (v := .agg #[.int .i64 3, .int .i64 0]) (by simp [results, Try.results9, go_sem]) rfl ⟨ret_two H.out.1 H.out.2, bmore (Below.refl _ _) _⟩
  · rw [ha] at HA
    cases hb : inB 0 1 b
    · have ho : owO a b = false := by unfold owO; rw [hb, Bool.and_false]
      have H : Hid (3 = owC a b ∧ 0 = owV a b) := ⟨(if_neg (by rw [ho]; decide)).symm, (if_neg (by rw [ho]; decide)).symm⟩
      rw [hb] at HB
      clear ha hb ho
      go_enter Try.func9, Try.ntmps9
      go_wp2_with fail
      refine (HA.out _).mono ?_
      rintro e w' ⟨rfl, rfl⟩
      go_wp2_with fail
      refine (HB.out _).mono ?_
      rintro e w' ⟨rfl, rfl⟩
      go_wp2
      exact bodyPost_ret (v := .agg #[.int .i64 3, .int .i64 0]) (by simp [results, Try.results9, go_sem]) rfl ⟨ret_two H.out.1 H.out.2, bmore (Below.refl _ _) _⟩
    · have ho : owO a b = true := by unfold owO; rw [hb, ha]; rfl
      have H : Hid (0 = owC a b ∧ (a + b) % 2 = owV a b) := ⟨(if_pos ho).symm, (if_pos ho).symm⟩
      have h1 := of_inB ha
      have h2 := of_inB hb
      have kw : wrap64 ((a + b) % 2) = (a + b) % 2 := wrap_of (by omega) (by omega)
      have hd : Int.tmod (a + b) 2 = (a + b) % 2 := Int.tmod_eq_emod_of_nonneg (by omega)
      rw [hb] at HB
      clear ha hb ho
      go_enter Try.func9, Try.ntmps9
      go_wp2_with fail
      refine (HA.out _).mono ?_
      rintro e w' ⟨rfl, rfl⟩
      go_wp2_with fail
      refine (HB.out _).mono ?_
      rintro e w' ⟨rfl, rfl⟩
      go_wp2
      exact bodyPost_ret (v := .agg #[.int .i64 0, .int .i64 ((a + b) % 2)]) (by simp [results, Try.results9, go_sem]) rfl ⟨ret_two H.out.1 H.out.2, bmore (Below.refl _ _) _⟩
end Go.Proofs.Ytnmjmknhlpmkoaa.BanI
