/- Sums that tell runs of bits: the plain mathematics: a register into which bits are pushed, the bits of a list of bytes, the sum, what is sealed. -/
import Derived.Laws.BitsAllLaws
namespace Go.Proofs.YthecfboplfmdmaaDoor.CrcM

/-- One bit is pushed into the register. -/
def push (r b : Nat) : Nat := if r / 32768 = b then r * 2 % 65536 else (r * 2 % 65536) ^^^ 4129
theorem push_lt (r b : Nat) : push r b < 65536 := by
  unfold push
  have h : r * 2 % 65536 < 2 ^ 16 := Nat.mod_lt _ (by decide)
  split
  · omega
  · exact Nat.xor_lt_two_pow h (by decide)
theorem push_same {r b : Nat} (h : r / 32768 = b) : push r b = r * 2 % 65536 := if_pos h
theorem push_other {r b : Nat} (h : ¬ r / 32768 = b) : push r b = (r * 2 % 65536) ^^^ 4129 := if_neg h

/-- The bit at place i. -/
def bitAt (xs : List Int) (i : Nat) : Nat := (xs.getD (i / 8) 0).toNat / 2 ^ (7 - i % 8) % 2
theorem bitAt_lt (xs : List Int) (i : Nat) : bitAt xs i < 2 := Nat.mod_lt _ (by decide)
/-- The register behind i bits. -/
def reg (xs : List Int) : Nat → Nat
  | 0 => 65535
  | i + 1 => push (reg xs i) (bitAt xs i)
theorem reg_lt (xs : List Int) (i : Nat) : reg xs i < 65536 := by
  cases i with
  | zero => exact (by decide : 65535 < 65536)
  | succ i => exact push_lt _ _
def crc (xs : List Int) : Nat := reg xs (8 * xs.length)
theorem crc_lt (xs : List Int) : crc xs < 65536 := reg_lt _ _
/-- What is sealed: the sum behind the bytes, the higher byte first. -/
def sealL (xs : List Int) : List Int := xs ++ [(crc xs : Int) / 256, (crc xs : Int) % 256]
theorem sealL_len (xs : List Int) : (sealL xs).length = xs.length + 2 := by simp [sealL]
def BytesL (xs : List Int) : Prop := ∀ x ∈ xs, 0 ≤ x ∧ x ≤ 255
theorem getD_bd {xs : List Int} (h : BytesL xs) (i : Nat) : 0 ≤ xs.getD i 0 ∧ xs.getD i 0 ≤ 255 := by
  rw [List.getD_eq_getElem?_getD]
  by_cases hi : i < xs.length
  · rw [List.getElem?_eq_getElem hi, Option.getD_some]; exact h _ (List.getElem_mem hi)
  · rw [List.getElem?_eq_none (by omega)]; simp
theorem sealL_bd {xs : List Int} (h : BytesL xs) : BytesL (sealL xs) := by
  have := crc_lt xs
  intro x hx
  rcases List.mem_append.1 hx with h1 | h1
  · exact h x h1
  · simp only [List.mem_cons, List.not_mem_nil, or_false] at h1
    rcases h1 with rfl | rfl <;> omega
theorem take_bd {xs : List Int} (h : BytesL xs) (n : Nat) : BytesL (xs.take n) := fun x hx => h x (List.mem_of_mem_take hx)

/-- What stands behind does not count. -/
theorem reg_congr {xs ys : List Int} (n : Nat) (h : ∀ i, i < n → bitAt xs i = bitAt ys i) : reg xs n = reg ys n := by
  induction n with
  | zero => rfl
  | succ n ih => simp only [reg]; rw [ih (fun i hi => h i (by omega)), h n (by omega)]
theorem bitAt_append {xs zs : List Int} (i : Nat) (h : i < 8 * xs.length) : bitAt (xs ++ zs) i = bitAt xs i := by
  unfold bitAt
  rw [List.getD_eq_getElem?_getD, List.getElem?_append_left (by omega), ← List.getD_eq_getElem?_getD]
theorem reg_append (xs zs : List Int) (n : Nat) (h : n ≤ 8 * xs.length) : reg (xs ++ zs) n = reg xs n := reg_congr n fun i hi => bitAt_append i (by omega)

/-- Pushing is linear, and its back is one. -/
theorem xor_half (a b : Nat) : (a ^^^ b) / 32768 = (a / 32768) ^^^ (b / 32768) := Nat.xor_div_two_pow (n := 15)
theorem xor_dbl (a b : Nat) : (a ^^^ b) * 2 % 65536 = (a * 2 % 65536) ^^^ (b * 2 % 65536) := by
  have h1 : ∀ x : Nat, x * 2 = x <<< 1 := fun x => by rw [Nat.shiftLeft_eq]
  rw [h1, h1, h1, Nat.shiftLeft_xor_distrib]
  exact Nat.xor_mod_two_pow (n := 16)
theorem xor_lc (a b c : Nat) : (a ^^^ b) ^^^ c = a ^^^ (b ^^^ c) := Nat.xor_assoc a b c
theorem xor_swap (a b : Nat) : a ^^^ (4129 ^^^ b) = a ^^^ (b ^^^ 4129) := by rw [Nat.xor_comm 4129 b]
theorem push_xor (r s b c : Nat) (hr : r < 65536) (hs : s < 65536) (hb : b < 2) (hc : c < 2) : push (r ^^^ s) (b ^^^ c) = push r b ^^^ push s c := by
  have hr2 : r / 32768 < 2 := by omega
  have hs2 : s / 32768 < 2 := by omega
  unfold push
  rw [xor_half, xor_dbl]
  generalize r * 2 % 65536 = A
  generalize s * 2 % 65536 = B
  generalize r / 32768 = p at *
  generalize s / 32768 = q at *
  have e : ∀ x : Nat, x < 2 → x = 0 ∨ x = 1 := fun x hx => by omega
  rcases e p hr2 with rfl | rfl <;> rcases e q hs2 with rfl | rfl <;> rcases e b hb with rfl | rfl <;> rcases e c hc with rfl | rfl <;> simp [xor_lc, xor_swap]
/-- Only from 0 comes 0, where no bit is pushed. -/
theorem push_even {r b : Nat} (h : push r b % 2 = 0) : r / 32768 = b ∧ push r b = r * 2 % 65536 := by
  by_cases hb : r / 32768 = b
  · exact ⟨hb, push_same hb⟩
  · exfalso
    rw [push_other hb, show (2 : Nat) = 2 ^ 1 from rfl, Nat.xor_mod_two_pow] at h
    have h3 : r * 2 ^ 1 % 65536 % 2 ^ 1 = 0 := by omega
    rw [h3] at h
    exact absurd h (by decide)
theorem push_zero {r : Nat} (_ : r < 65536) (h : push r 0 = 0) : r = 0 := by
  obtain ⟨h1, h2⟩ := push_even (r := r) (b := 0) (by rw [h])
  rw [h] at h2
  omega

/-- The register behind n bits that are pushed into r. -/
def run (r : Nat) (bs : Nat → Nat) : Nat → Nat
  | 0 => r
  | n + 1 => push (run r bs n) (bs n)
theorem reg_run (xs : List Int) (n : Nat) : reg xs n = run 65535 (bitAt xs) n := by
  induction n with
  | zero => rfl
  | succ n ih => simp only [reg, run]; rw [ih]
theorem run_lt {r : Nat} (hr : r < 65536) (bs : Nat → Nat) (n : Nat) : run r bs n < 65536 := by
  cases n with
  | zero => exact hr
  | succ n => exact push_lt _ _
theorem run_add (r : Nat) (bs : Nat → Nat) (m n : Nat) : run r bs (m + n) = run (run r bs m) (fun i => bs (m + i)) n := by
  induction n with
  | zero => rfl
  | succ n ih => show push (run r bs (m + n)) (bs (m + n)) = _; rw [ih]; rfl
theorem run_xor (r s : Nat) (bs cs : Nat → Nat) (n : Nat) (hr : r < 65536) (hs : s < 65536) (hb : ∀ i, bs i < 2) (hc : ∀ i, cs i < 2) : run (r ^^^ s) (fun i => bs i ^^^ cs i) n = run r bs n ^^^ run s cs n := by
  induction n with
  | zero => rfl
  | succ n ih => simp only [run]; rw [ih]; exact push_xor _ _ _ _ (run_lt hr _ _) (run_lt hs _ _) (hb n) (hc n)
theorem run_congr (r : Nat) (bs cs : Nat → Nat) (n : Nat) (h : ∀ i, i < n → bs i = cs i) : run r bs n = run r cs n := by
  induction n with
  | zero => rfl
  | succ n ih => simp only [run]; rw [ih (fun i hi => h i (by omega)), h n (by omega)]
theorem run_quiet (bs : Nat → Nat) (n : Nat) (h : ∀ i, i < n → bs i = 0) : run 0 bs n = 0 := by
  induction n with
  | zero => rfl
  | succ n ih => simp only [run]; rw [ih (fun i hi => h i (by omega)), h n (by omega)]; rfl
theorem run_back {r : Nat} (hr : r < 65536) (bs : Nat → Nat) (n : Nat) (h : ∀ i, i < n → bs i = 0) (hz : run r bs n = 0) : r = 0 := by
  induction n with
  | zero => exact hz
  | succ n ih =>
    simp only [run] at hz
    rw [h n (by omega)] at hz
    exact ih (fun i hi => h i (by omega)) (push_zero (run_lt hr _ _) hz)
theorem cases16 {k : Nat} (h : k < 16) : k = 0 ∨ k = 1 ∨ k = 2 ∨ k = 3 ∨ k = 4 ∨ k = 5 ∨ k = 6 ∨ k = 7 ∨ k = 8 ∨ k = 9 ∨ k = 10 ∨ k = 11 ∨ k = 12 ∨ k = 13 ∨ k = 14 ∨ k = 15 := by omega
/-- Its own bits, pushed, leave nothing. -/
theorem run_own (r : Nat) (bs : Nat → Nat) (k : Nat) (hk : k ≤ 16) (hr : r < 65536) (h : ∀ i, i < 16 → bs i = r / 2 ^ (15 - i) % 2) : run r bs k = r * 2 ^ k % 65536 := by
  induction k with
  | zero => simp only [run]; omega
  | succ k ih =>
    have ih' := ih (by omega)
    have hb := h k (by omega)
    simp only [run]
    rw [ih', hb]
    rcases cases16 (k := k) (by omega) with rfl | rfl | rfl | rfl | rfl | rfl | rfl | rfl | rfl | rfl | rfl | rfl | rfl | rfl | rfl | rfl <;> (rw [push_same (by simp; omega)]; simp; try omega)
/-- What comes to 0 within fifteen bits is not odd. -/
theorem run_zero (j : Nat) (hj : j ≤ 15) : ∀ (s : Nat) (bs : Nat → Nat), s < 65536 → run s bs j = 0 → s % 2 ^ (16 - j) = 0 := by
  induction j with
  | zero => intro s bs hs h; simp only [run] at h; rw [h]
  | succ j ih =>
    intro s bs hs h
    rw [Nat.add_comm j 1, run_add] at h
    have h1 := ih (by omega) (run s bs 1) _ (run_lt hs _ _) h
    simp only [run] at h1
    have h2 : push s (bs 0) % 2 = 0 := by
      rcases cases16 (k := j) (by omega) with rfl | rfl | rfl | rfl | rfl | rfl | rfl | rfl | rfl | rfl | rfl | rfl | rfl | rfl | rfl | rfl <;> (simp at h1; try omega)
    rw [(push_even h2).2] at h1
    clear h h2 ih
    rcases cases16 (k := j) (by omega) with rfl | rfl | rfl | rfl | rfl | rfl | rfl | rfl | rfl | rfl | rfl | rfl | rfl | rfl | rfl | rfl <;> (simp at h1 ⊢; try omega)
/-- Bits that are turned within sixteen are told. -/
theorem burst (e : Nat → Nat) (p n : Nat) (hp : p < n) (h0 : ∀ i, i < p → e i = 0) (h1 : e p = 1) (h2 : ∀ i, p + 16 ≤ i → e i = 0) : run 0 e n ≠ 0 := by
  have hs : run 0 e (p + 1) = 4129 := by simp only [run]; rw [run_quiet e p h0, h1]; rfl
  have key : ∀ j, j ≤ 15 → run 0 e (p + 1 + j) ≠ 0 := by
    intro j hj hz
    rw [run_add, hs] at hz
    have := run_zero j hj 4129 _ (by decide) hz
    rcases cases16 (k := j) (by omega) with rfl | rfl | rfl | rfl | rfl | rfl | rfl | rfl | rfl | rfl | rfl | rfl | rfl | rfl | rfl | rfl <;> simp at this
  by_cases hn : n ≤ p + 16
  · have := key (n - (p + 1)) (by omega)
    rwa [show p + 1 + (n - (p + 1)) = n by omega] at this
  · intro hz
    rw [show n = (p + 16) + (n - (p + 16)) by omega, run_add] at hz
    have := run_back (run_lt (by decide) _ _) _ _ (fun i hi => h2 _ (by omega)) hz
    exact key 15 (by omega) (by rw [show p + 1 + 15 = p + 16 by omega]; exact this)

theorem sealL_get {xs : List Int} {i : Nat} (hi : i < 16) : bitAt (sealL xs) (8 * xs.length + i) = crc xs / 2 ^ (15 - i) % 2 := by
  unfold bitAt sealL
  have hc := crc_lt xs
  rw [List.getD_eq_getElem?_getD, List.getElem?_append_right (by omega)]
  rw [show (8 * xs.length + i) / 8 - xs.length = i / 8 by omega, show (8 * xs.length + i) % 8 = i % 8 by omega]
  generalize crc xs = c at *
  rcases cases16 hi with rfl | rfl | rfl | rfl | rfl | rfl | rfl | rfl | rfl | rfl | rfl | rfl | rfl | rfl | rfl | rfl <;> simp <;> omega
/-- What is sealed leaves nothing in the register. -/
theorem seal_zero (xs : List Int) : reg (sealL xs) (8 * (sealL xs).length) = 0 := by
  rw [sealL_len, show 8 * (xs.length + 2) = 8 * xs.length + 16 by omega, reg_run, run_add, ← reg_run]
  have e : reg (sealL xs) (8 * xs.length) = crc xs := reg_append _ _ _ (Nat.le_refl _)
  rw [e, run_own (crc xs) _ 16 (by omega) (crc_lt xs) (fun i hi => sealL_get hi)]
  omega
end Go.Proofs.YthecfboplfmdmaaDoor.CrcM
