/- The model's ladder: steps, halves of steps, what is nearest in steps, and back. No conditions. -/
import Derived.Test.YtfmgdhpadamlkaaLadM
import Derived.Test.YtfmgdhpadamlkaaGa
namespace Go.Proofs.Ytfmgdhpadamlkaa.LadS
open Go.ChangeShapes Go.WideShapes Go.ChangeAt Go.RowKit Go.Proofs.Ytfmgdhpadamlkaa.Num Go.Proofs.Ytfmgdhpadamlkaa.Div Go.Proofs.Ytfmgdhpadamlkaa.Sli Go.Proofs.Ytfmgdhpadamlkaa.HalM Go.Proofs.Ytfmgdhpadamlkaa.LadM

/-- Two to the power of k. -/
def tw (k : Nat) : Nat := 2 ^ k
theorem tw_le {k m : Nat} (h : k ≤ m) : tw k ≤ 2 ^ m := Nat.pow_le_pow_right (by decide) h
theorem tw_succ (k : Nat) : tw (k + 1) = tw k * 2 := Nat.pow_succ 2 k
theorem l4Two_calls (k : Nat) (w : World) (hk : k ≤ 24) : Calls Try.prog 30 #[.int .i64 (k : Int)] w fun e w' => e = .returned (.int .i64 (tw k : Int)) ∧ w' = w := by
  go_enter Try.func30, Try.ntmps30
  go_wp2_with fail
  go_loop [0, 3] (fun i n => ∃ j : Nat, i = .int .i64 ((k - j : Nat) : Int) ∧ n = .int .i64 (tw j : Int) ∧ j ≤ k) (fun i _ => (intOf i).toNat)
  case atStart => exact ⟨0, rfl, rfl, Nat.zero_le _⟩
  case round =>
    obtain ⟨j, rfl, rfl, hj⟩ := hrel
    have hb : (tw j : Int) ≤ 16777216 := by
      have := tw_le (k := j) (m := 24) (by omega)
      omega
    have h0 : 0 ≤ (tw j : Int) := by omega
    by_cases hlt : j < k
    · have hp : Hid ((tw (j + 1) : Int) = (tw j : Int) * 2) := by show _ = _; rw [tw_succ]; omega
      obtain ⟨m, hm⟩ : ∃ m, k - j = m + 1 := ⟨k - j - 1, by omega⟩
      have Hm : Hid (k - (j + 1) = m) := by show _ = _; omega
      have hm2 : (m : Int) ≤ 24 := by omega
      rw [hm]
      generalize hx : (tw j : Int) = x at *
      have Hx := hid hx
      clear hx hm
      go_wp2
      go_round
      case rel => exact ⟨j + 1, (by rw [Hm.out]), (by rw [hp.out]), by omega⟩
      case measure => simp [intOf]
    · obtain rfl : j = k := by omega
      rw [Nat.sub_self]
      generalize hx : (tw j : Int) = x at *
      have Hx := hid hx
      clear hx
      go_wp2
      go_ret
      exact ⟨by rw [Hx.out]; rfl, rfl⟩
theorem l9Step_calls (r : Nat) (w : World) (hr : r < 48) : Calls Try.prog 27 #[.int .i64 (r : Int)] w fun e w' => e = .returned (.int .i64 (stN r : Int)) ∧ w' = w := by
  have HT := hid l4Two_calls
  by_cases h0 : r = 0
  · subst h0
    clear HT
    go_enter Try.func27, Try.ntmps27
    go_wp2
    go_ret
    exact ⟨rfl, rfl⟩
  · have hx0 : ((r : Int) == 0) = false := by simp; omega
    by_cases h1 : r % 2 = 1
    · obtain ⟨k, hk⟩ : ∃ k, (r + 1) / 2 = k := ⟨_, rfl⟩
      have HE : Hid ((tw k : Int) = (stN r : Int)) := by show _ = _; unfold stN tw; rw [if_neg h0, if_pos h1, hk]
      have hm : ((r : Int)).tmod 2 = 1 := by rw [Int.tmod_eq_emod_of_nonneg (by omega)]; omega
      have hd : ((r : Int) + 1).tdiv 2 = (k : Int) := by rw [Int.tdiv_eq_ediv_of_nonneg (by omega)]; omega
      have hk24 : k ≤ 24 := by omega
      have hr47 : (r : Int) ≤ 47 := by omega
      have hr0 : 0 ≤ (r : Int) := by omega
      clear h0 h1 hk hr
      generalize (stN r : Int) = st at *
      generalize (r : Int) = x at *
      go_enter Try.func27, Try.ntmps27
      go_wp2_with fail
      refine (HT.out k _ hk24).mono ?_
      rintro e w' ⟨rfl, rfl⟩
      rw [HE.out]
      go_wp2
      go_ret
      exact ⟨rfl, rfl⟩
    · obtain ⟨k, hk⟩ : ∃ k, r / 2 - 1 = k := ⟨_, rfl⟩
      have HE : Hid (3 * (tw k : Int) = (stN r : Int)) := by show _ = _; unfold stN tw; rw [if_neg h0, if_neg h1, hk]; omega
      have hm : ((r : Int)).tmod 2 = 0 := by rw [Int.tmod_eq_emod_of_nonneg (by omega)]; omega
      have hd : ((r : Int)).tdiv 2 = (k : Int) + 1 := by rw [Int.tdiv_eq_ediv_of_nonneg (by omega)]; omega
      have hk24 : k ≤ 24 := by omega
      have hkI : (k : Int) ≤ 24 := by omega
      have hr47 : (r : Int) ≤ 47 := by omega
      have hr0 : 0 ≤ (r : Int) := by omega
      have hb : 0 ≤ (tw k : Int) ∧ (tw k : Int) ≤ 16777216 := by
        have := tw_le hk24
        omega
      clear h0 h1 hk hr
      generalize (stN r : Int) = st at *
      generalize (r : Int) = x at *
      go_enter Try.func27, Try.ntmps27
      go_wp2_with fail
      refine (HT.out k _ hk24).mono ?_
      rintro e w' ⟨rfl, rfl⟩
      generalize (tw k : Int) = t at *
      go_wp2
      go_ret
      exact ⟨by rw [HE.out]; rfl, rfl⟩
end Go.Proofs.Ytfmgdhpadamlkaa.LadS
