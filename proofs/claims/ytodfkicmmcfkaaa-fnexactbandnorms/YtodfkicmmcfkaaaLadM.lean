/- The mathematics of the ladder: steps, what is nearest in steps, the finest rung. No program is spoken of. -/
import Derived.Test.YtodfkicmmcfkaaaHalM
namespace Go.Proofs.Ytodfkicmmcfkaaa.LadM
open Go.ChangeShapes Go.WideShapes Go.ChangeAt Go.RowKit Go.Proofs.Ytodfkicmmcfkaaa.Num Go.Proofs.Ytodfkicmmcfkaaa.Samp Go.Proofs.Ytodfkicmmcfkaaa.HalM

/-- The step of a rung. -/
def stN (r : Nat) : Nat := if r = 0 then 1 else if r % 2 = 1 then 2 ^ ((r + 1) / 2) else 3 * 2 ^ (r / 2 - 1)
def stV (r : Int) : Int := (stN r.toNat : Int)
theorem st_all : ∀ r, r < 48 → 1 ≤ stN r ∧ stN r ≤ 16777216 ∧ (r < 47 → stN r < stN (r + 1)) := by decide +kernel
def rgB (r : Int) : Bool := inB 0 47 r
theorem rg_nat {r : Int} (h : rgB r = true) : ∃ n : Nat, r = (n : Int) ∧ n < 48 ∧ stV r = (stN n : Int) := by
  obtain ⟨h1, h2⟩ := of_inB h
  refine ⟨r.toNat, by omega, by omega, rfl⟩
theorem st_bd {r : Int} (h : rgB r = true) : 1 ≤ stV r ∧ stV r ≤ 16777216 := by
  obtain ⟨n, rfl, hn, e⟩ := rg_nat h
  have := st_all n hn
  rw [e]; omega
theorem st_up {r : Int} (h : rgB r = true) (h2 : r < 47) : rgB (r + 1) = true ∧ stV r < stV (r + 1) := by
  obtain ⟨n, rfl, hn, e⟩ := rg_nat h
  have := (st_all n hn).2.2 (by omega)
  refine ⟨inB_yes (by omega) (by omega), ?_⟩
  have e2 : stV ((n : Int) + 1) = (stN (n + 1) : Int) := by unfold stV; congr 1
  rw [e, e2]; omega
/-- The common answers. -/
def soC (r : Int) : Int := if rgB r = true then 0 else 3
def soV (r : Int) : Int := if rgB r = true then stV r else 0
def hsV (r : Int) : Int := if rgB r = true then stV r / 2 else 0
def qzO (c r : Int) : Bool := rgB r && coB c
def qzC (c r : Int) : Int := if qzO c r = true then 0 else 3
def qzV (c r : Int) : Int := if qzO c r = true then nearV c (stV r) else 0
def rsO (q r : Int) : Bool := rgB r && (coB q && coB (q * stV r))
def rsC (q r : Int) : Int := if rsO q r = true then 0 else 3
def rsV (q r : Int) : Int := if rsO q r = true then q * stV r else 0
/-- What is nearest, in steps. -/
theorem near_abs {a s q : Int} (hs : 0 < s) (hq : q = (2 * a + s) / (2 * s)) : -(s / 2) ≤ q * s - a ∧ q * s - a ≤ s / 2 := by
  have h1 := Int.mul_ediv_self_le (x := 2 * a + s) (k := 2 * s) (by omega)
  have h2 := Int.lt_mul_ediv_self_add (x := 2 * a + s) (k := 2 * s) (by omega)
  rw [← hq] at h1 h2
  have e : 2 * s * q = 2 * (q * s) := by rw [Int.mul_assoc, Int.mul_comm s q]
  rw [e] at h1 h2
  generalize q * s = x at *
  omega
theorem near_off {c s : Int} (hs : 0 < s) : absV (nearV c s * s - c) ≤ s / 2 := by
  unfold nearV
  by_cases h : c < 0
  · rw [if_pos h]
    have := near_abs (a := -c) hs rfl
    rw [Int.neg_mul]
    generalize (2 * -c + s) / (2 * s) * s = x at *
    unfold absV; split <;> omega
  · rw [if_neg h]
    have := near_abs (a := c) hs rfl
    generalize (2 * c + s) / (2 * s) * s = x at *
    unfold absV; split <;> omega
theorem near_mul {q s : Int} (hs : 0 < s) : nearV (q * s) s = q := by
  have key : ∀ a : Int, (2 * (a * s) + s) / (2 * s) = a := by
    intro a
    have e : 2 * (a * s) + s = s + 2 * s * a := by rw [Int.mul_assoc, Int.mul_comm s a, Int.add_comm]
    rw [e, Int.add_mul_ediv_left _ _ (by omega), Int.ediv_eq_zero_of_lt (by omega) (by omega), Int.zero_add]
  unfold nearV
  split
  · rw [show 2 * -(q * s) + s = 2 * (-q * s) + s by rw [Int.neg_mul], key]; omega
  · exact key q
theorem near_small {c s : Int} (hs : 1 ≤ s) (hc : -16777216 ≤ c ∧ c ≤ 16777216) : -16777216 ≤ nearV c s ∧ nearV c s ≤ 16777216 := by
  have key : ∀ a : Int, 0 ≤ a → a ≤ 16777216 → 0 ≤ (2 * a + s) / (2 * s) ∧ (2 * a + s) / (2 * s) ≤ 16777216 := by
    intro a h0 h1
    refine ⟨Int.ediv_nonneg (by omega) (by omega), ?_⟩
    have h2 : (2 * a + s) / (2 * s) < 16777216 + 1 := by
      apply Int.ediv_lt_of_lt_mul (by omega)
      have : 16777216 * (2 * 1) ≤ 16777216 * (2 * s) := Int.mul_le_mul_of_nonneg_left (by omega) (by omega)
      have e : (16777216 + 1) * (2 * s) = 16777216 * (2 * s) + 2 * s := by rw [Int.add_mul, Int.one_mul]
      omega
    omega
  unfold nearV
  split
  · have := key (-c) (by omega) (by omega); omega
  · have := key c (by omega) (by omega); omega
/-- The finest rung. -/
def okR (l : List Int) (m : Int) (r : Nat) : Bool := l.all (fun x => decide (absV (nearV x (stN r)) ≤ m))
def fiF (l : List Int) (m : Int) : Nat → Nat → Int
  | 0, _ => -1
  | f + 1, r => if okR l m r = true then (r : Int) else fiF l m f (r + 1)
def fiV (l : List Int) (m : Int) : Int := fiF l m 48 0
theorem fi_some : ∀ (f r : Nat) {l : List Int} {m : Int} {k : Nat}, r ≤ k → k < r + f → (∀ j, r ≤ j → j < k → okR l m j = false) → okR l m k = true → fiF l m f r = (k : Int)
  | 0, r, _, _, k, h1, h2, _, _ => by omega
  | f + 1, r, l, m, k, h1, h2, hn, hk => by
    unfold fiF
    by_cases e : r = k
    · rw [e, if_pos hk]
    · rw [if_neg (by rw [hn r (Nat.le_refl _) (by omega)]; decide)]
      exact fi_some f (r + 1) (by omega) (by omega) (fun j h3 h4 => hn j (by omega) h4) hk
theorem fi_none : ∀ (f r : Nat) {l : List Int} {m : Int}, (∀ j, r ≤ j → j < r + f → okR l m j = false) → fiF l m f r = -1
  | 0, _, _, _, _ => rfl
  | f + 1, r, l, m, hn => by
    unfold fiF
    rw [if_neg (by rw [hn r (Nat.le_refl _) (by omega)]; decide)]
    exact fi_none f (r + 1) (fun j h1 h2 => hn j (by omega) (by omega))
theorem fi_cases : ∀ (f r : Nat) (l : List Int) (m : Int), (fiF l m f r = -1 ∧ ∀ j, r ≤ j → j < r + f → okR l m j = false) ∨ ∃ k : Nat, fiF l m f r = (k : Int) ∧ r ≤ k ∧ k < r + f ∧ okR l m k = true ∧ ∀ j, r ≤ j → j < k → okR l m j = false
  | 0, r, _, _ => .inl ⟨rfl, fun j h1 h2 => by omega⟩
  | f + 1, r, l, m => by
    cases hr : okR l m r
    · have e : fiF l m (f + 1) r = fiF l m f (r + 1) := by show (if okR l m r = true then (r : Int) else _) = _; rw [if_neg (by rw [hr]; decide)]
      rw [e]
      rcases fi_cases f (r + 1) l m with ⟨h1, h2⟩ | ⟨k, h1, h2, h3, h4, h5⟩
      · refine .inl ⟨h1, fun j g1 g2 => ?_⟩
        by_cases hj : j = r
        · rw [hj]; exact hr
        · exact h2 j (by omega) (by omega)
      · refine .inr ⟨k, h1, by omega, by omega, h4, fun j g1 g2 => ?_⟩
        by_cases hj : j = r
        · rw [hj]; exact hr
        · exact h5 j (by omega) g2
    · exact .inr ⟨r, by show (if okR l m r = true then (r : Int) else _) = _; rw [if_pos hr], Nat.le_refl _, by omega, hr, fun j h1 h2 => by omega⟩
def moB (m : Int) : Bool := inB 0 65535 m
def frgC (l : List Int) (m : Int) : Int := if l.length ≤ 64 then (if (l.all coB && moB m) = true then (if fiV l m < 0 then 4 else 0) else 3) else 2
def frgV (l : List Int) (m : Int) : Int := if frgC l m = 0 then fiV l m else 0
end Go.Proofs.Ytodfkicmmcfkaaa.LadM
