/- Bits that are turned: the plain mathematics. -/
import Derived.Test.YtlljdehjlbmgcaaDoorCrcM
namespace Go.Proofs.YtlljdehjlbmgcaaDoor.FlipM
open Go.Proofs.YtlljdehjlbmgcaaDoor.CrcM

/-- b has L binary digits. -/
def Len (b L : Nat) : Prop := 1 ≤ L ∧ L ≤ 16 ∧ 2 ^ (L - 1) ≤ b ∧ b < 2 ^ L
theorem len_of (b : Nat) (h1 : 1 ≤ b) (h2 : b ≤ 65535) : Len b (Nat.log2 b + 1) := by
  have hb : b ≠ 0 := by omega
  refine ⟨by omega, ?_, ?_, ?_⟩
  · have : Nat.log2 b < 16 := (Nat.log2_lt hb).2 (by omega)
    omega
  · simpa using Nat.log2_self_le hb
  · exact Nat.lt_log2_self
/-- The digit at place i, the first one at 0. -/
def dig (b L i : Nat) : Nat := b / 2 ^ (L - 1 - i) % 2
theorem dig_lt (b L i : Nat) : dig b L i < 2 := Nat.mod_lt _ (by decide)
theorem dig_first {b L : Nat} (h : Len b L) : dig b L 0 = 1 := by
  obtain ⟨h1, h2, h3, h4⟩ := h
  unfold dig
  rw [Nat.sub_zero]
  have e : 2 ^ L = 2 * 2 ^ (L - 1) := by
    obtain ⟨k, rfl⟩ : ∃ k, L = k + 1 := ⟨L - 1, by omega⟩
    rw [Nat.pow_succ]; simp [Nat.mul_comm]
  have hd : b / 2 ^ (L - 1) = 1 := by
    apply Nat.le_antisymm
    · have : b / 2 ^ (L - 1) < 2 := Nat.div_lt_of_lt_mul (by rw [Nat.mul_comm]; omega)
      omega
    · exact (Nat.le_div_iff_mul_le (Nat.two_pow_pos _)).2 (by omega)
  rw [hd]
/-- P is the place of the last digit that is 1. -/
def Last (b L P : Nat) : Prop := P < L ∧ dig b L P = 1 ∧ ∀ i, P < i → i < L → dig b L i = 0

/-- One bit is turned. -/
def flip1 (xs : List Int) (p : Nat) : List Int := xs.set (p / 8) (((xs.getD (p / 8) 0).toNat ^^^ 2 ^ (7 - p % 8) : Nat) : Int)
theorem flip1_len (xs : List Int) (p : Nat) : (flip1 xs p).length = xs.length := by simp [flip1]
theorem byte_xor_lt {x k : Nat} (hx : x < 256) (hk : k < 8) : x ^^^ 2 ^ k < 256 := by
  have h1 : x < 2 ^ 8 := hx
  have h2 : 2 ^ k < 2 ^ 8 := Nat.pow_lt_pow_right (by decide) hk
  exact Nat.xor_lt_two_pow h1 h2
theorem flip1_bd {xs : List Int} (h : BytesL xs) (p : Nat) : BytesL (flip1 xs p) := fun y hy => by
  rcases List.mem_or_eq_of_mem_set hy with h3 | h3
  · exact h y h3
  · have := getD_bd h (p / 8)
    have h4 : (xs.getD (p / 8) 0).toNat ^^^ 2 ^ (7 - p % 8) < 256 := byte_xor_lt (by omega) (by omega)
    rw [h3]; omega
theorem mod2_xor (a b : Nat) : (a ^^^ b) % 2 = (a % 2) ^^^ (b % 2) := Nat.xor_mod_two_pow (n := 1)
theorem bit_xor (x j k : Nat) (hj : j < 8) (hk : k < 8) : (x ^^^ 2 ^ k) / 2 ^ j % 2 = (x / 2 ^ j % 2) ^^^ (if j = k then 1 else 0) := by
  rw [Nat.xor_div_two_pow, mod2_xor]
  congr 1
  rcases (show k = 0 ∨ k = 1 ∨ k = 2 ∨ k = 3 ∨ k = 4 ∨ k = 5 ∨ k = 6 ∨ k = 7 by omega) with rfl | rfl | rfl | rfl | rfl | rfl | rfl | rfl <;>
    rcases (show j = 0 ∨ j = 1 ∨ j = 2 ∨ j = 3 ∨ j = 4 ∨ j = 5 ∨ j = 6 ∨ j = 7 by omega) with rfl | rfl | rfl | rfl | rfl | rfl | rfl | rfl <;> decide
theorem bitAt_flip1 {xs : List Int} (_ : BytesL xs) (p i : Nat) (hp : p < 8 * xs.length) : bitAt (flip1 xs p) i = bitAt xs i ^^^ (if i = p then 1 else 0) := by
  unfold bitAt flip1
  by_cases e : i / 8 = p / 8
  · have hl : p / 8 < xs.length := by omega
    rw [e, List.getD_eq_getElem?_getD, List.getElem?_set_self hl, Option.getD_some, Int.toNat_natCast, bit_xor _ _ _ (by omega) (by omega)]
    congr 1
    by_cases e2 : i = p
    · subst e2; simp
    · rw [if_neg (by omega), if_neg e2]
  · rw [List.getD_eq_getElem?_getD, List.getElem?_set_ne (by omega), ← List.getD_eq_getElem?_getD, if_neg (by intro e2; subst e2; exact e rfl), Nat.xor_zero]

/-- The bits that are turned, up to i places. -/
def flN (xs : List Int) (a b L : Nat) : Nat → List Int
  | 0 => xs
  | i + 1 => if dig b L i = 1 then flip1 (flN xs a b L i) (a + i) else flN xs a b L i
theorem flN_len (xs : List Int) (a b L i : Nat) : (flN xs a b L i).length = xs.length := by
  induction i with
  | zero => rfl
  | succ i ih => simp only [flN]; split <;> simp [flip1_len, ih]
theorem flN_bd {xs : List Int} (h : BytesL xs) (a b L i : Nat) : BytesL (flN xs a b L i) := by
  induction i with
  | zero => exact h
  | succ i ih => simp only [flN]; split; exact flip1_bd ih _; exact ih
theorem flN_rest (xs : List Int) (a b L P : Nat) (hP : Last b L P) : ∀ k, P + 1 + k ≤ L → flN xs a b L (P + 1 + k) = flN xs a b L (P + 1) := by
  intro k
  induction k with
  | zero => intro _; rfl
  | succ k ih =>
    intro h
    show (if dig b L (P + 1 + k) = 1 then _ else flN xs a b L (P + 1 + k)) = _
    rw [if_neg (by rw [hP.2.2 (P + 1 + k) (by omega) (by omega)]; decide)]
    exact ih (by omega)
/-- Which bits are turned. -/
def err (a b L i : Nat) : Nat := if a ≤ i ∧ i < a + L then dig b L (i - a) else 0
theorem err_lt (a b L i : Nat) : err a b L i < 2 := by unfold err; split; exact dig_lt _ _ _; decide
theorem bitAt_flN {xs : List Int} (h : BytesL xs) (a b L P : Nat) (_ : Last b L P) (hin : a + P < 8 * xs.length) (i : Nat) :
    ∀ k, k ≤ P + 1 → bitAt (flN xs a b L k) i = bitAt xs i ^^^ (if a ≤ i ∧ i < a + k then dig b L (i - a) else 0) := by
  intro k
  induction k with
  | zero => intro _; rw [if_neg (by omega), Nat.xor_zero]; rfl
  | succ k ih =>
    intro hk
    have ih' := ih (by omega)
    have hd := dig_lt b L k
    simp only [flN]
    by_cases hx : dig b L k = 1
    · rw [if_pos hx, bitAt_flip1 (flN_bd h _ _ _ _) _ _ (by rw [flN_len]; omega), ih', Nat.xor_assoc]
      congr 1
      by_cases e : i = a + k
      · subst e
        rw [if_neg (by omega), if_pos rfl, if_pos (by omega), show a + k - a = k by omega, hx]; rfl
      · rw [if_neg e, Nat.xor_zero]
        by_cases e2 : a ≤ i ∧ i < a + k
        · rw [if_pos e2, if_pos (by omega)]
        · rw [if_neg e2, if_neg (by omega)]
    · rw [if_neg hx, ih']
      congr 1
      by_cases e : i = a + k
      · subst e
        rw [if_neg (by omega), if_pos (by omega), show a + k - a = k by omega]; omega
      · by_cases e2 : a ≤ i ∧ i < a + k
        · rw [if_pos e2, if_pos (by omega)]
        · rw [if_neg e2, if_neg (by omega)]
/-- All of the turned list. -/
theorem bitAt_all {xs : List Int} (h : BytesL xs) (a b L P : Nat) (hP : Last b L P) (hin : a + P < 8 * xs.length) (i : Nat) : bitAt (flN xs a b L (P + 1)) i = bitAt xs i ^^^ err a b L i := by
  rw [bitAt_flN h a b L P hP hin i (P + 1) (Nat.le_refl _)]
  congr 1
  unfold err
  have hPL := hP.1
  by_cases e : a ≤ i ∧ i < a + (P + 1)
  · rw [if_pos e, if_pos (by omega)]
  · rw [if_neg e]
    by_cases e2 : a ≤ i ∧ i < a + L
    · rw [if_pos e2, hP.2.2 (i - a) (by omega) (by omega)]
    · rw [if_neg e2]
/-- Bytes are told by their bits. -/
theorem bytes_ext {xs ys : List Int} (hx : BytesL xs) (hy : BytesL ys) (hl : xs.length = ys.length) (h : ∀ i, bitAt xs i = bitAt ys i) : xs = ys := by
  apply List.ext_getElem hl
  intro j h1 h2
  have ex : xs.getD j 0 = xs[j] := by rw [List.getD_eq_getElem?_getD, List.getElem?_eq_getElem h1, Option.getD_some]
  have ey : ys.getD j 0 = ys[j] := by rw [List.getD_eq_getElem?_getD, List.getElem?_eq_getElem h2, Option.getD_some]
  have bx := hx _ (List.getElem_mem h1)
  have bY := hy _ (List.getElem_mem h2)
  have key : ∀ k, k < 8 → xs[j].toNat / 2 ^ (7 - k) % 2 = ys[j].toNat / 2 ^ (7 - k) % 2 := by
    intro k hk
    have := h (8 * j + k)
    unfold bitAt at this
    rw [show (8 * j + k) / 8 = j by omega, show (8 * j + k) % 8 = k by omega, ex, ey] at this
    exact this
  have k0 := key 0 (by omega); have k1 := key 1 (by omega); have k2 := key 2 (by omega); have k3 := key 3 (by omega)
  have k4 := key 4 (by omega); have k5 := key 5 (by omega); have k6 := key 6 (by omega); have k7 := key 7 (by omega)
  simp at k0 k1 k2 k3 k4 k5 k6 k7
  omega
/-- Turned twice they are as they were. -/
theorem flip_twice {xs : List Int} (h : BytesL xs) (a b L P : Nat) (hP : Last b L P) (hin : a + P < 8 * xs.length) : flN (flN xs a b L (P + 1)) a b L (P + 1) = xs := by
  apply bytes_ext (flN_bd (flN_bd h _ _ _ _) _ _ _ _) h (by rw [flN_len, flN_len])
  intro i
  rw [bitAt_all (flN_bd h _ _ _ _) a b L P hP (by rw [flN_len]; exact hin), bitAt_all h a b L P hP hin, Nat.xor_assoc, Nat.xor_self, Nat.xor_zero]
theorem err_first {a b L : Nat} (h : Len b L) : err a b L a = 1 := by
  unfold err
  rw [if_pos (by have := h.1; omega), Nat.sub_self, dig_first h]
theorem flip_other {xs : List Int} (h : BytesL xs) (a b L P : Nat) (hL : Len b L) (hP : Last b L P) (hin : a + P < 8 * xs.length) : flN xs a b L (P + 1) ≠ xs := by
  intro e
  have := bitAt_all h a b L P hP hin a
  rw [e, err_first hL] at this
  have hb := bitAt_lt xs a
  rcases (show bitAt xs a = 0 ∨ bitAt xs a = 1 by omega) with h0 | h0 <;> rw [h0] at this <;> exact absurd this (by decide)
/-- What is turned within sixteen bits is told. -/
theorem flip_told {ys : List Int} (hy : BytesL ys) (a b L P : Nat) (hL : Len b L) (hP : Last b L P) (hin : a + P < 8 * (sealL ys).length) (zs : List Int) (hz : sealL zs = flN (sealL ys) a b L (P + 1)) : False := by
  have h1 := seal_zero ys
  have h2 := seal_zero zs
  have hl : (sealL zs).length = (sealL ys).length := by rw [hz, flN_len]
  rw [hl] at h2
  rw [reg_run] at h1 h2
  have e : run 65535 (bitAt (sealL zs)) (8 * (sealL ys).length) = run 65535 (bitAt (sealL ys)) (8 * (sealL ys).length) ^^^ run 0 (err a b L) (8 * (sealL ys).length) := by
    rw [← run_xor 65535 0 _ _ _ (by decide) (by decide) (fun i => bitAt_lt _ i) (fun i => err_lt a b L i)]
    rw [Nat.xor_zero]
    apply run_congr
    intro i _
    rw [hz]
    exact bitAt_all (sealL_bd hy) a b L P hP hin i
  rw [h1, h2, Nat.zero_xor] at e
  refine burst (err a b L) a (8 * (sealL ys).length) (by omega) (fun i hi => ?_) (err_first hL) (fun i hi => ?_) e.symm
  · unfold err; rw [if_neg (by omega)]
  · unfold err; rw [if_neg (by have := hL.2.1; omega)]
/-- The lowest bit. -/
theorem low_of (x : Nat) : 0 < x → ∃ t, x % 2 ^ (t + 1) = 2 ^ t := by
  induction x using Nat.strongRecOn with
  | ind x ih =>
    intro hx
    by_cases ho : x % 2 = 1
    · exact ⟨0, by simpa using ho⟩
    · obtain ⟨t, ht⟩ := ih (x / 2) (by omega) (by omega)
      refine ⟨t + 1, ?_⟩
      have e : x = 2 * (x / 2) := by omega
      rw [e, Nat.pow_succ 2 (t + 1), Nat.mul_comm (2 ^ (t + 1)) 2, Nat.mul_mod_mul_left, ht, Nat.pow_succ]
      exact Nat.mul_comm _ _
theorem low_lt {x t : Nat} (h : x % 2 ^ (t + 1) = 2 ^ t) (hx : x < 65536) : t < 16 := by
  have h1 : 2 ^ t ≤ x := by rw [← h]; exact Nat.mod_le _ _
  exact (Nat.pow_lt_pow_iff_right (a := 2) (by decide)).1 (show 2 ^ t < 2 ^ 16 by omega)
theorem low_div {x t : Nat} (h : x % 2 ^ (t + 1) = 2 ^ t) : x / 2 ^ t % 2 = 1 ∧ x % 2 ^ t = 0 := by
  have e : 2 ^ (t + 1) = 2 ^ t * 2 := Nat.pow_succ ..
  have hp := Nat.two_pow_pos t
  constructor
  · rw [← Nat.mod_mul_right_div_self, ← e, h, Nat.div_self hp]
  · have h1 : x % 2 ^ (t + 1) % 2 ^ t = x % 2 ^ t := by rw [e]; exact Nat.mod_mul_right_mod _ _ _
    rw [← h1, h, Nat.mod_self]
theorem and_neg {x t : Nat} (h : x % 2 ^ (t + 1) = 2 ^ t) (hx : x < 65536) : x &&& (65536 - x) = 2 ^ t := by
  have ht := low_lt h hx
  obtain ⟨h1, h2⟩ := low_div h
  have hp := Nat.two_pow_pos t
  have hx0 : 0 < x := by
    rcases Nat.eq_zero_or_pos x with h0 | h0
    · rw [h0] at h1; simp at h1
    · exact h0
  obtain ⟨y, rfl⟩ : ∃ y, x = y + 1 := ⟨x - 1, by omega⟩
  apply Nat.eq_of_testBit_eq
  intro i
  rw [Nat.testBit_and, show 65536 - (y + 1) = 2 ^ 16 - (y + 1) from rfl, Nat.testBit_two_pow_sub_succ (by omega), Nat.testBit_two_pow]
  have e1 : (y + 1) / 2 ^ (t + 1) = y / 2 ^ (t + 1) := by
    have e : 2 ^ (t + 1) = 2 ^ t * 2 := Nat.pow_succ ..
    have hd := Nat.div_add_mod (y + 1) (2 ^ (t + 1))
    rw [h] at hd
    have : y = 2 ^ (t + 1) * ((y + 1) / 2 ^ (t + 1)) + (2 ^ t - 1) := by omega
    conv => rhs; rw [this]
    rw [Nat.mul_add_div (by omega), Nat.div_eq_of_lt (a := 2 ^ t - 1) (by omega)]
    exact (Nat.add_zero _).symm
  rcases Nat.lt_trichotomy i t with hi | hi | hi
  · have : (y + 1).testBit i = false := by
      rw [Nat.testBit_eq_decide_div_mod_eq]
      have hd : 2 ^ t ∣ (y + 1) := Nat.dvd_of_mod_eq_zero h2
      obtain ⟨c, hc⟩ := hd
      have e : 2 ^ t = 2 ^ i * (2 * 2 ^ (t - i - 1)) := by
        rw [← Nat.pow_succ', ← Nat.pow_add]; congr 1; omega
      rw [hc, e, Nat.mul_assoc, Nat.mul_div_cancel_left _ (Nat.two_pow_pos i), Nat.mul_assoc]
      simp
    rw [this]; simp; omega
  · subst hi
    have a1 : (y + 1).testBit i = true := by rw [Nat.testBit_eq_decide_div_mod_eq]; simpa using h1
    have a2 : y.testBit i = false := by
      rw [Nat.testBit_eq_decide_div_mod_eq]
      have e : 2 ^ (i + 1) = 2 ^ i * 2 := Nat.pow_succ ..
      have hd := Nat.div_add_mod (y + 1) (2 ^ (i + 1))
      rw [h] at hd
      have : y = 2 ^ i * (2 * ((y + 1) / 2 ^ (i + 1))) + (2 ^ i - 1) := by rw [← Nat.mul_assoc, ← e]; omega
      rw [this, Nat.mul_add_div hp, Nat.div_eq_of_lt (a := 2 ^ i - 1) (by omega), Nat.add_zero]
      simp
    rw [a1, a2]; simp [ht]
  · have a1 : (y + 1).testBit i = y.testBit i := by
      rw [Nat.testBit_eq_decide_div_mod_eq, Nat.testBit_eq_decide_div_mod_eq]
      have e : 2 ^ i = 2 ^ (t + 1) * 2 ^ (i - t - 1) := by rw [← Nat.pow_add]; congr 1; omega
      rw [e, ← Nat.div_div_eq_div_mul, ← Nat.div_div_eq_div_mul, e1]
    rw [a1]
    cases y.testBit i <;> simp <;> omega

/-- The digits as they are told from the top of sixteen bits. -/
theorem dig_top {b L i : Nat} (hL : L ≤ 16) (hi : i < L) : b * 2 ^ (16 - L) / 2 ^ (15 - i) % 2 = dig b L i := by
  unfold dig
  have e : 2 ^ (15 - i) = 2 ^ (16 - L) * 2 ^ (L - 1 - i) := by rw [← Nat.pow_add]; congr 1; omega
  rw [e, Nat.mul_comm b, Nat.mul_div_mul_left _ _ (Nat.two_pow_pos _)]
theorem top_none {b L i : Nat} (hL : L ≤ 16) (hi : L ≤ i) (hi2 : i ≤ 15) : b * 2 ^ (16 - L) / 2 ^ (15 - i) % 2 = 0 := by
  have e : 2 ^ (16 - L) = 2 ^ (15 - i) * (2 * 2 ^ (i - L)) := by rw [← Nat.pow_succ', ← Nat.pow_add]; congr 1; omega
  rw [e, ← Nat.mul_assoc, Nat.mul_comm b, Nat.mul_assoc, Nat.mul_div_cancel_left _ (Nat.two_pow_pos _), ← Nat.mul_assoc, Nat.mul_comm b 2, Nat.mul_assoc]
  simp
theorem top_lt {b L : Nat} (h : Len b L) : b * 2 ^ (16 - L) < 65536 := by
  obtain ⟨h1, h2, h3, h4⟩ := h
  have : 2 ^ L * 2 ^ (16 - L) = 65536 := by rw [← Nat.pow_add, show L + (16 - L) = 16 by omega]
  rw [← this]
  exact Nat.mul_lt_mul_of_pos_right h4 (Nat.two_pow_pos _)
theorem last_of {b L t : Nat} (h : Len b L) (ht : (b * 2 ^ (16 - L)) % 2 ^ (t + 1) = 2 ^ t) : t < 16 ∧ Last b L (15 - t) := by
  have h16 := low_lt ht (top_lt h)
  obtain ⟨d1, d2⟩ := low_div ht
  obtain ⟨h1, h2, h3, h4⟩ := h
  have hP : 15 - t < L := by
    rcases Nat.lt_or_ge (15 - t) L with hl | hl
    · exact hl
    · have := top_none (b := b) (L := L) (i := 15 - t) h2 hl (by omega)
      rw [show 15 - (15 - t) = t by omega] at this
      omega
  refine ⟨h16, hP, ?_, fun i hi hi2 => ?_⟩
  · rw [← dig_top h2 hP, show 15 - (15 - t) = t by omega]; exact d1
  · rw [← dig_top h2 hi2]
    have hd : 2 ^ t ∣ b * 2 ^ (16 - L) := Nat.dvd_of_mod_eq_zero d2
    obtain ⟨c, hc⟩ := hd
    have e : 2 ^ t = 2 ^ (15 - i) * (2 * 2 ^ (t - (15 - i) - 1)) := by rw [← Nat.pow_succ', ← Nat.pow_add]; congr 1; omega
    rw [hc, e, Nat.mul_assoc, Nat.mul_div_cancel_left _ (Nat.two_pow_pos _), Nat.mul_assoc]
    simp
end Go.Proofs.YtlljdehjlbmgcaaDoor.FlipM
