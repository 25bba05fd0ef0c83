/- The choice that the laws make out of their bytes: one of 0 to n - 1 (0 where n is at most 1). -/
import Derived.Test.YtbbejjlgfekipaaSrc
namespace Go.Proofs.Ytbbejjlgfekipaa.LwAt
open Go.ChangeShapes Go.WideShapes Go.ChangeAt Go.RowKit Go.Proofs.Ytbbejjlgfekipaa.Num Go.Proofs.Ytbbejjlgfekipaa.Sli Go.Proofs.Ytbbejjlgfekipaa.Src

theorem wrapsA (x0 q : Int) (q0 : 0 ≤ q) (q1 : q ≤ 10000) (d0 : 0 ≤ x0 ∧ x0 ≤ 255) :
    wrap64 q = q ∧ wrap64 (q * 3) = q * 3 ∧ wrap64 (x0 + q * 3) = x0 + q * 3 ∧ 0 ≤ x0 + q * 3 ∧ x0 + q * 3 ≤ 30255 := by
  refine ⟨wrap_of (by omega) (by omega), wrap_of (by omega) (by omega), wrap_of (by omega) (by omega), by omega, by omega⟩

set_option maxHeartbeats 1000000 in
theorem lwAt_some (b off cap : Nat) (bs : List Int) (w : World) (iN : Nat) (n : Int) (hpos : 0 < bs.length)
    (hcell : ∀ i, i < bs.length → w.cell? ⟨b, off + i, none⟩ = some (.int .u8 (bs.getD i 0))) (hbd : ∀ x ∈ bs, 0 ≤ x ∧ x ≤ 255) (hlen : bs.length ≤ 1048576) (hi : iN ≤ 10000) (hn1 : 1 < n) (hn2 : n ≤ 1000000000000000) :
    Calls Try.prog 12 #[.slice (some ⟨b, off, none⟩) bs.length cap, .int .i64 iN, .int .i64 n] w fun e w' => ∃ r : Int, e = .returned (.int .i64 r) ∧ 0 ≤ r ∧ r < n ∧ Below w.heap.size w w' := by
  have j0 := Nat.mod_lt iN hpos
  have j1 := Nat.mod_lt (iN + 1) hpos
  have c0 := hcell _ j0
  have c1 := hcell _ j1
  have d0 := getD_bd hbd _ j0
  have d1 := getD_bd hbd _ j1
  have m0 : ((iN : Int) % (bs.length : Int)) = ((iN % bs.length : Nat) : Int) := by simp
  have m1 : (((iN : Int) + 1) % (bs.length : Int)) = (((iN + 1) % bs.length : Nat) : Int) := by simp
  have m3 : (((iN : Int) + 1).tmod (bs.length : Int)) = (((iN + 1) % bs.length : Nat) : Int) := by rw [Int.tmod_eq_emod_of_nonneg (by omega), m1]
  obtain ⟨q, hq⟩ : ∃ q, (iN : Int) / (bs.length : Int) = q := ⟨_, rfl⟩
  have q0 : 0 ≤ q := by rw [← hq]; exact Int.ediv_nonneg (by omega) (by omega)
  have q1 : q ≤ 10000 := by have := Int.ediv_le_self (bs.length : Int) (show (0 : Int) ≤ iN by omega); rw [hq] at this; omega
  have hk0 : ((bs.length : Int) == 0) = false := beq_eq_false_iff_ne.2 (by omega)
  have HP : Hid (n ≠ 0 ∧ 0 < n) := ⟨by omega, by omega⟩
  clear hcell hbd
  generalize bs.getD (iN % bs.length) 0 = x0 at *
  generalize bs.getD ((iN + 1) % bs.length) 0 = x1 at *
  generalize iN % bs.length = i0 at *
  generalize (iN + 1) % bs.length = i1 at *
  obtain ⟨v1, v2, v3, v4, v5⟩ := wrapsA x0 q q0 q1 d0
  by_cases h200 : 200 < n
  · go_enter Try.func12, Try.ntmps12
    go_wp2
    go_quiet (fail)
    generalize x0 + q * 3 = V at *
    clear v1 v2 v3 q0 q1 d0 m0
    go_wp2
    all_goals (try go_quiet (fail))
    all_goals (try go_wp2)
    go_ret
    exact ⟨_, rfl, Int.emod_nonneg _ HP.out.1, Int.emod_lt_of_pos _ HP.out.2, below_drewN (Below.refl _ _) _⟩
  · go_enter Try.func12, Try.ntmps12
    go_wp2
    go_quiet (fail)
    go_wp2
    go_ret
    exact ⟨_, rfl, Int.emod_nonneg _ HP.out.1, Int.emod_lt_of_pos _ HP.out.2, below_drewN (Below.refl _ _) _⟩

theorem lwAt_none (a : Option Addr) (cap : Nat) (w : World) (iN : Nat) (n : Int) (hi : iN ≤ 10000) (hn1 : 1 < n) (hn2 : n ≤ 1000000000000000) :
    Calls Try.prog 12 #[.slice a 0 cap, .int .i64 iN, .int .i64 n] w fun e w' => ∃ r : Int, e = .returned (.int .i64 r) ∧ 0 ≤ r ∧ r < n ∧ Below w.heap.size w w' := by
  have HP : Hid (n ≠ 0 ∧ 0 < n) := ⟨by omega, by omega⟩
  go_enter Try.func12, Try.ntmps12
  go_wp2
  go_ret
  exact ⟨_, rfl, Int.emod_nonneg _ HP.out.1, Int.emod_lt_of_pos _ HP.out.2, Below.refl _ _⟩

theorem lwAt_one (a : Option Addr) (len cap : Nat) (w : World) (i n : Int) (hn1 : n ≤ 1) :
    Calls Try.prog 12 #[.slice a len cap, .int .i64 i, .int .i64 n] w fun e w' => e = .returned (.int .i64 0) ∧ Below w.heap.size w w' := by
  go_enter Try.func12, Try.ntmps12
  go_wp2
  go_ret
  exact ⟨rfl, Below.refl _ _⟩

theorem lwAt_calls (a : Option Addr) (cap : Nat) (bs : List Int) (w : World) (hsl : Sl .u8 w (.slice a bs.length cap) bs) (hbd : ∀ x ∈ bs, 0 ≤ x ∧ x ≤ 255) (hlen : bs.length ≤ 1048576) (i n : Int) (hi0 : 0 ≤ i) (hi : i ≤ 10000) (hn2 : n ≤ 1000000000000000) :
    Calls Try.prog 12 #[.slice a bs.length cap, .int .i64 i, .int .i64 n] w fun e w' => ∃ r : Int, e = .returned (.int .i64 r) ∧ 0 ≤ r ∧ (r < n ∨ r = 0) ∧ Below w.heap.size w w' := by
  by_cases hn : n ≤ 1
  · exact (lwAt_one a bs.length cap w i n hn).mono fun e w' ⟨he, hb⟩ => ⟨0, he, Int.le_refl _, Or.inr rfl, hb⟩
  · obtain ⟨iN, rfl⟩ := Int.eq_ofNat_of_zero_le hi0
    by_cases hne : bs = []
    · subst hne
      exact (lwAt_none a cap w iN n (by omega) (by omega) hn2).mono fun e w' ⟨r, he, h1, h2, hb⟩ => ⟨r, he, h1, Or.inl h2, hb⟩
    · obtain ⟨a', cap', hv, hc⟩ := hsl
      obtain ⟨b, off, ha, _, hcell⟩ := hc hne
      simp at hv
      obtain ⟨hv1, hv2⟩ := hv
      subst hv1
      subst ha
      exact (lwAt_some b off cap bs w iN n (by cases bs with | nil => exact absurd rfl hne | cons _ _ => simp) hcell hbd hlen (by omega) (by omega) hn2).mono fun e w' ⟨r, he, h1, h2, hb⟩ => ⟨r, he, h1, Or.inl h2, hb⟩
end Go.Proofs.Ytbbejjlgfekipaa.LwAt
