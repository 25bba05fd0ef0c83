/- The model's ladder: steps, halves of steps, what is nearest in steps, and back. No conditions. -/
import Derived.Test.YthmmjdippdnieaaLadM
import Derived.Test.YthmmjdippdnieaaGa
namespace Go.Proofs.Ythmmjdippdnieaa.LadS
open Go.ChangeShapes Go.WideShapes Go.ChangeAt Go.RowKit Go.Proofs.Ythmmjdippdnieaa.Num Go.Proofs.Ythmmjdippdnieaa.Div Go.Proofs.Ythmmjdippdnieaa.Sli Go.Proofs.Ythmmjdippdnieaa.HalM Go.Proofs.Ythmmjdippdnieaa.LadM

/-- Two to the power of k. -/
def tw (k : Nat) : Nat := 2 ^ k
theorem tw_le {k m : Nat} (h : k ≤ m) : tw k ≤ 2 ^ m := Nat.pow_le_pow_right (by decide) h
theorem tw_succ (k : Nat) : tw (k + 1) = tw k * 2 := Nat.pow_succ 2 k
theorem l4Two_calls (k : Nat) (w : World) (hk : k ≤ 24) : Calls Try.prog 46 #[.int .i64 (k : Int)] w fun e w' => e = .returned (.int .i64 (tw k : Int)) ∧ w' = w := by
  go_enter Try.func46, Try.ntmps46
  go_wp2_with fail
  go_loop [0, 3] (fun i n => ∃ j : Nat, i = .int .i64 ((k - j : Nat) : Int) ∧ n = .int .i64 (tw j : Int) ∧ j ≤ k) (fun i _ => (intOf i).toNat)
  case atStart => exact ⟨0, rfl, rfl, Nat.zero_le _⟩
  case round =>
    obtain ⟨j, rfl, rfl, hj⟩ := hrel
    have hb : (tw j : Int) ≤ 16777216 := by
      have := tw_le (k := j) (m := 24) (by omega)
      omega
    have h0 : 0 ≤ (tw j : Int) := by omega
    by_cases hlt : j < k
    · have hp : Hid ((tw (j + 1) : Int) = (tw j : Int) * 2) := by show _ = _; rw [tw_succ]; omega
      obtain ⟨m, hm⟩ : ∃ m, k - j = m + 1 := ⟨k - j - 1, by omega⟩
      have Hm : Hid (k - (j + 1) = m) := by show _ = _; omega
      have hm2 : (m : Int) ≤ 24 := by omega
      rw [hm]
      generalize hx : (tw j : Int) = x at *
      have Hx := hid hx
      clear hx hm
      go_wp2
      go_round
      case rel => exact ⟨j + 1, (by rw [Hm.out]), (by rw [hp.out]), by omega⟩
      case measure => simp [intOf]
    · obtain rfl : j = k := by omega
      rw [Nat.sub_self]
      generalize hx : (tw j : Int) = x at *
      have Hx := hid hx
      clear hx
      go_wp2
      go_ret
      exact ⟨by rw [Hx.out]; rfl, rfl⟩
theorem l9Step_calls (r : Nat) (w : World) (hr : r < 48) : Calls Try.prog 36 #[.int .i64 (r : Int)] w fun e w' => e = .returned (.int .i64 (stN r : Int)) ∧ w' = w := by
  have HT := hid l4Two_calls
  by_cases h0 : r = 0
  · subst h0
    clear HT
    go_enter Try.func36, Try.ntmps36
    go_wp2
    go_ret
    exact ⟨rfl, rfl⟩
  · have hx0 : ((r : Int) == 0) = false := by simp; omega
    by_cases h1 : r % 2 = 1
    · obtain ⟨k, hk⟩ : ∃ k, (r + 1) / 2 = k := ⟨_, rfl⟩
      have HE : Hid ((tw k : Int) = (stN r : Int)) := by show _ = _; unfold stN tw; rw [if_neg h0, if_pos h1, hk]
      have hm : ((r : Int)).tmod 2 = 1 := by rw [Int.tmod_eq_emod_of_nonneg (by omega)]; omega
      have hd : ((r : Int) + 1).tdiv 2 = (k : Int) := by rw [Int.tdiv_eq_ediv_of_nonneg (by omega)]; omega
      have hk24 : k ≤ 24 := by omega
      have hr47 : (r : Int) ≤ 47 := by omega
      have hr0 : 0 ≤ (r : Int) := by omega
      clear h0 h1 hk hr
      generalize (stN r : Int) = st at *
      generalize (r : Int) = x at *
      go_enter Try.func36, Try.ntmps36
      go_wp2_with fail
      refine (HT.out k _ hk24).mono ?_
      rintro e w' ⟨rfl, rfl⟩
      rw [HE.out]
      go_wp2
      go_ret
      exact ⟨rfl, rfl⟩
    · obtain ⟨k, hk⟩ : ∃ k, r / 2 - 1 = k := ⟨_, rfl⟩
      have HE : Hid (3 * (tw k : Int) = (stN r : Int)) := by show _ = _; unfold stN tw; rw [if_neg h0, if_neg h1, hk]; omega
      have hm : ((r : Int)).tmod 2 = 0 := by rw [Int.tmod_eq_emod_of_nonneg (by omega)]; omega
      have hd : ((r : Int)).tdiv 2 = (k : Int) + 1 := by rw [Int.tdiv_eq_ediv_of_nonneg (by omega)]; omega
      have hk24 : k ≤ 24 := by omega
      have hkI : (k : Int) ≤ 24 := by omega
      have hr47 : (r : Int) ≤ 47 := by omega
      have hr0 : 0 ≤ (r : Int) := by omega
      have hb : 0 ≤ (tw k : Int) ∧ (tw k : Int) ≤ 16777216 := by
        have := tw_le hk24
        omega
      clear h0 h1 hk hr
      generalize (stN r : Int) = st at *
      generalize (r : Int) = x at *
      go_enter Try.func36, Try.ntmps36
      go_wp2_with fail
      refine (HT.out k _ hk24).mono ?_
      rintro e w' ⟨rfl, rfl⟩
      generalize (tw k : Int) = t at *
      go_wp2
      go_ret
      exact ⟨by rw [HE.out]; rfl, rfl⟩
theorem l9Rung_calls (r : Int) (w : World) : Calls Try.prog 33 #[.int .i64 r] w fun e w' => e = .returned (.bool (rgB r)) ∧ w' = w := by
  have HI := hid (l1In_calls r 0 47)
  go_enter Try.func33, Try.ntmps33
  go_wp2_with (go_at_call 38; refine (HI.out _).mono ?_; rintro e w' ⟨rfl, rfl⟩)
  go_ret
  exact ⟨rfl, rfl⟩
theorem l9Coef_calls (c : Int) (w : World) : Calls Try.prog 34 #[.int .i64 c] w fun e w' => e = .returned (.bool (coB c)) ∧ w' = w := by
  have HI := hid (l1In_calls c (-16777216) 16777216)
  go_enter Try.func34, Try.ntmps34
  go_wp2_with (go_at_call 38; refine (HI.out _).mono ?_; rintro e w' ⟨rfl, rfl⟩)
  go_ret
  exact ⟨rfl, rfl⟩
theorem specStepOf_calls (r : Int) (w : World) : Calls Try.prog 15 #[.int .i64 r] w fun e w' => e = .returned (.agg #[.int .i64 (soC r), .int .i64 (soV r)]) ∧ Below w.heap.size w w' := by
  have HR := hid (l9Rung_calls r)
  cases h : rgB r
  · have H : Hid (3 = soC r ∧ 0 = soV r) := ⟨(if_neg (by rw [h]; decide)).symm, (if_neg (by rw [h]; decide)).symm⟩
    rw [h] at HR
    clear h
    go_enter Try.func15, Try.ntmps15
    go_wp2_with (go_at_call 33; refine (HR.out _).mono ?_; rintro e w' ⟨rfl, rfl⟩)
    exact bodyPost_ret (v := .agg #[.int .i64 3, .int .i64 0]) (by simp [results, Try.results15, go_sem]) rfl ⟨ret_two H.out.1 H.out.2, bmore (Below.refl _ _) _⟩
  · have H : Hid (0 = soC r ∧ stV r = soV r) := ⟨(if_pos h).symm, (if_pos h).symm⟩
    rw [h] at HR
    obtain ⟨n, rfl, hn, e⟩ := rg_nat h
    have HS := hid (fun W => l9Step_calls n W hn)
    rw [← e] at HS
    clear h hn e
    generalize stV (n : Int) = st at *
    generalize soV (n : Int) = sv at *
    generalize soC (n : Int) = sc at *
    generalize (n : Int) = x at *
    go_enter Try.func15, Try.ntmps15
    go_wp2_with (first | (go_at_call 33; refine (HR.out _).mono ?_; rintro e w' ⟨rfl, rfl⟩) | (go_at_call 36; refine (HS.out _).mono ?_; rintro e w' ⟨rfl, rfl⟩))
    exact bodyPost_ret (v := .agg #[.int .i64 0, .int .i64 st]) (by simp [results, Try.results15, go_sem]) rfl ⟨ret_two H.out.1 H.out.2, bmore (Below.refl _ _) _⟩
theorem specHalfStep_calls (r : Int) (w : World) : Calls Try.prog 20 #[.int .i64 r] w fun e w' => e = .returned (.agg #[.int .i64 (soC r), .int .i64 (hsV r)]) ∧ Below w.heap.size w w' := by
  have HR := hid (l9Rung_calls r)
  cases h : rgB r
  · have H : Hid (3 = soC r ∧ 0 = hsV r) := ⟨(if_neg (by rw [h]; decide)).symm, (if_neg (by rw [h]; decide)).symm⟩
    rw [h] at HR
    clear h
    go_enter Try.func20, Try.ntmps20
    go_wp2_with (go_at_call 33; refine (HR.out _).mono ?_; rintro e w' ⟨rfl, rfl⟩)
    exact bodyPost_ret (v := .agg #[.int .i64 3, .int .i64 0]) (by simp [results, Try.results20, go_sem]) rfl ⟨ret_two H.out.1 H.out.2, bmore (Below.refl _ _) _⟩
  · have H : Hid (0 = soC r ∧ stV r / 2 = hsV r) := ⟨(if_pos h).symm, (if_pos h).symm⟩
    have hb := st_bd h
    rw [h] at HR
    obtain ⟨n, rfl, hn, e⟩ := rg_nat h
    have HS := hid (fun W => l9Step_calls n W hn)
    rw [← e] at HS
    have hd : (stV (n : Int)).tdiv 2 = stV (n : Int) / 2 := Int.tdiv_eq_ediv_of_nonneg (by omega)
    clear h hn e
    generalize stV (n : Int) = st at *
    generalize hsV (n : Int) = sv at *
    generalize soC (n : Int) = sc at *
    generalize (n : Int) = x at *
    go_enter Try.func20, Try.ntmps20
    go_wp2_with (first | (go_at_call 33; refine (HR.out _).mono ?_; rintro e w' ⟨rfl, rfl⟩) | (go_at_call 36; refine (HS.out _).mono ?_; rintro e w' ⟨rfl, rfl⟩))
    exact bodyPost_ret (v := .agg #[.int .i64 0, .int .i64 (st / 2)]) (by simp [results, Try.results20, go_sem]) rfl ⟨ret_two H.out.1 H.out.2, bmore (Below.refl _ _) _⟩
set_option maxHeartbeats 1000000 in
theorem specQuantize_calls (c r : Int) (w : World) : Calls Try.prog 14 #[.int .i64 c, .int .i64 r] w fun e w' => e = .returned (.agg #[.int .i64 (qzC c r), .int .i64 (qzV c r)]) ∧ Below w.heap.size w w' := by
  have HR := hid (l9Rung_calls r)
  have HC := hid (l9Coef_calls c)
  cases h : rgB r
  · have h' : qzO c r = false := by unfold qzO; rw [h]; rfl
    have H : Hid (3 = qzC c r ∧ 0 = qzV c r) := ⟨(if_neg (by rw [h']; decide)).symm, (if_neg (by rw [h']; decide)).symm⟩
    rw [h] at HR
    clear h h' HC
    go_enter Try.func14, Try.ntmps14
    go_wp2_with (go_at_call 33; refine (HR.out _).mono ?_; rintro e w' ⟨rfl, rfl⟩)
    exact bodyPost_ret (v := .agg #[.int .i64 3, .int .i64 0]) (by simp [results, Try.results14, go_sem]) rfl ⟨ret_two H.out.1 H.out.2, bmore (Below.refl _ _) _⟩
  · cases hc : coB c
    · have h' : qzO c r = false := by unfold qzO; rw [hc, Bool.and_false]
      have H : Hid (3 = qzC c r ∧ 0 = qzV c r) := ⟨(if_neg (by rw [h']; decide)).symm, (if_neg (by rw [h']; decide)).symm⟩
      rw [h] at HR
      rw [hc] at HC
      clear h h' hc
      go_enter Try.func14, Try.ntmps14
      go_wp2_with (first | (go_at_call 33; refine (HR.out _).mono ?_; rintro e w' ⟨rfl, rfl⟩) | (go_at_call 34; refine (HC.out _).mono ?_; rintro e w' ⟨rfl, rfl⟩))
      exact bodyPost_ret (v := .agg #[.int .i64 3, .int .i64 0]) (by simp [results, Try.results14, go_sem]) rfl ⟨ret_two H.out.1 H.out.2, bmore (Below.refl _ _) _⟩
    · have h' : qzO c r = true := by unfold qzO; rw [h, hc]; rfl
      have H : Hid (0 = qzC c r ∧ nearV c (stV r) = qzV c r) := ⟨(if_pos h').symm, (if_pos h').symm⟩
      have hb := st_bd h
      have hcb := of_inB hc
      have HN := hid (fun W => l1Round_calls c (stV r) W (by omega) (by omega) (by omega) (by omega))
      rw [h] at HR
      rw [hc] at HC
      obtain ⟨n, rfl, hn, e⟩ := rg_nat h
      have HS := hid (fun W => l9Step_calls n W hn)
      rw [← e] at HS
      clear h h' hc hn e hb hcb
      generalize nearV c (stV (n : Int)) = nv at *
      generalize stV (n : Int) = st at *
      generalize qzV c (n : Int) = sv at *
      generalize qzC c (n : Int) = sc at *
      generalize (n : Int) = x at *
      go_enter Try.func14, Try.ntmps14
      go_wp2_with (first | (go_at_call 33; refine (HR.out _).mono ?_; rintro e w' ⟨rfl, rfl⟩) | (go_at_call 34; refine (HC.out _).mono ?_; rintro e w' ⟨rfl, rfl⟩) | (go_at_call 36; refine (HS.out _).mono ?_; rintro e w' ⟨rfl, rfl⟩) | (go_at_call 35; refine (HN.out _).mono ?_; rintro e w' ⟨rfl, rfl⟩))
      exact bodyPost_ret (v := .agg #[.int .i64 0, .int .i64 nv]) (by simp [results, Try.results14, go_sem]) rfl ⟨ret_two H.out.1 H.out.2, bmore (Below.refl _ _) _⟩
theorem mul_far {q s : Int} (hq : -16777216 ≤ q ∧ q ≤ 16777216) (hs : 1 ≤ s ∧ s ≤ 16777216) : -281474976710656 ≤ q * s ∧ q * s ≤ 281474976710656 := by
  have h1 := Int.mul_le_mul_of_nonneg_right hq.2 (show 0 ≤ s by omega)
  have h2 := Int.mul_le_mul_of_nonneg_right hq.1 (show 0 ≤ s by omega)
  omega
set_option maxHeartbeats 1000000 in
theorem specRestore_calls (q r : Int) (w : World) : Calls Try.prog 17 #[.int .i64 q, .int .i64 r] w fun e w' => e = .returned (.agg #[.int .i64 (rsC q r), .int .i64 (rsV q r)]) ∧ Below w.heap.size w w' := by
  have HR := hid (l9Rung_calls r)
  have HC := hid (l9Coef_calls q)
  cases h : rgB r
  · have h' : rsO q r = false := by unfold rsO; rw [h]; rfl
    have H : Hid (3 = rsC q r ∧ 0 = rsV q r) := ⟨(if_neg (by rw [h']; decide)).symm, (if_neg (by rw [h']; decide)).symm⟩
    rw [h] at HR
    clear h h' HC
    go_enter Try.func17, Try.ntmps17
    go_wp2_with (go_at_call 33; refine (HR.out _).mono ?_; rintro e w' ⟨rfl, rfl⟩)
    exact bodyPost_ret (v := .agg #[.int .i64 3, .int .i64 0]) (by simp [results, Try.results17, go_sem]) rfl ⟨ret_two H.out.1 H.out.2, bmore (Below.refl _ _) _⟩
  · cases hc : coB q
    · have h' : rsO q r = false := by unfold rsO; rw [hc, Bool.false_and, Bool.and_false]
      have H : Hid (3 = rsC q r ∧ 0 = rsV q r) := ⟨(if_neg (by rw [h']; decide)).symm, (if_neg (by rw [h']; decide)).symm⟩
      rw [h] at HR
      rw [hc] at HC
      clear h h' hc
      go_enter Try.func17, Try.ntmps17
      go_wp2_with (first | (go_at_call 33; refine (HR.out _).mono ?_; rintro e w' ⟨rfl, rfl⟩) | (go_at_call 34; refine (HC.out _).mono ?_; rintro e w' ⟨rfl, rfl⟩))
      exact bodyPost_ret (v := .agg #[.int .i64 3, .int .i64 0]) (by simp [results, Try.results17, go_sem]) rfl ⟨ret_two H.out.1 H.out.2, bmore (Below.refl _ _) _⟩
    · have hb := mul_far (of_inB hc) (st_bd h)
      have HC2 := hid (l9Coef_calls (q * stV r))
      have hor : rsO q r = coB (q * stV r) := by unfold rsO; rw [h, hc]; rfl
      rw [h] at HR
      rw [hc] at HC
      obtain ⟨n, rfl, hn, e⟩ := rg_nat h
      have HS := hid (fun W => l9Step_calls n W hn)
      rw [← e] at HS
      cases hm : coB (q * stV (n : Int))
      · have H : Hid (3 = rsC q (n : Int) ∧ 0 = rsV q (n : Int)) := ⟨(if_neg (by rw [hor, hm]; decide)).symm, (if_neg (by rw [hor, hm]; decide)).symm⟩
        rw [hm] at HC2
        clear h hc hn e hor hm
        generalize stV (n : Int) = st at *
        generalize rsV q (n : Int) = sv at *
        generalize rsC q (n : Int) = sc at *
        generalize (n : Int) = x at *
        go_enter Try.func17, Try.ntmps17
        go_wp2_with fail
        refine (HR.out _).mono ?_
        rintro e w' ⟨rfl, rfl⟩
        go_wp2_with fail
        refine (HC.out _).mono ?_
        rintro e w' ⟨rfl, rfl⟩
        go_wp2_with fail
        refine (HS.out _).mono ?_
        rintro e w' ⟨rfl, rfl⟩
        go_wp2_with fail
        refine (HC2.out _).mono ?_
        rintro e w' ⟨rfl, rfl⟩
        go_wp2
        exact bodyPost_ret (v := .agg #[.int .i64 3, .int .i64 0]) (by simp [results, Try.results17, go_sem]) rfl ⟨ret_two H.out.1 H.out.2, bmore (Below.refl _ _) _⟩
      · have H : Hid (0 = rsC q (n : Int) ∧ q * stV (n : Int) = rsV q (n : Int)) := ⟨(if_pos (by rw [hor, hm])).symm, (if_pos (by rw [hor, hm])).symm⟩
        rw [hm] at HC2
        clear h hc hn e hor hm
        generalize stV (n : Int) = st at *
        generalize rsV q (n : Int) = sv at *
        generalize rsC q (n : Int) = sc at *
        generalize (n : Int) = x at *
        go_enter Try.func17, Try.ntmps17
        go_wp2_with fail
        refine (HR.out _).mono ?_
        rintro e w' ⟨rfl, rfl⟩
        go_wp2_with fail
        refine (HC.out _).mono ?_
        rintro e w' ⟨rfl, rfl⟩
        go_wp2_with fail
        refine (HS.out _).mono ?_
        rintro e w' ⟨rfl, rfl⟩
        go_wp2_with fail
        refine (HC2.out _).mono ?_
        rintro e w' ⟨rfl, rfl⟩
        go_wp2_with fail
        refine (HS.out _).mono ?_
        rintro e w' ⟨rfl, rfl⟩
        go_wp2
        exact bodyPost_ret (v := .agg #[.int .i64 0, .int .i64 (q * st)]) (by simp [results, Try.results17, go_sem]) rfl ⟨ret_two H.out.1 H.out.2, bmore (Below.refl _ _) _⟩
end Go.Proofs.Ythmmjdippdnieaa.LadS
