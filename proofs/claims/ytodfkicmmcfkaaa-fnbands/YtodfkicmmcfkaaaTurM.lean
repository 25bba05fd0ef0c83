/- The mathematics of turns and mixes: the table of turns, the three steps and their undoing, sums and differences; no program is spoken of. -/
import Derived.Test.YtodfkicmmcfkaaaSamp
namespace Go.Proofs.Ytodfkicmmcfkaaa.TurM
open Go.ChangeShapes Go.WideShapes Go.ChangeAt Go.RowKit Go.Proofs.Ytodfkicmmcfkaaa.Num Go.Proofs.Ytodfkicmmcfkaaa.Samp

/-- The numbers of the row k of the table: size, turn, P, U. -/
def rowL : List (Int × Int × Int × Int) := [(4, 0, 101, 200), (4, 1, 311, 569), (8, 0, 50, 100), (8, 1, 152, 297), (8, 2, 257, 483), (8, 3, 366, 650), (16, 0, 25, 50), (16, 1, 76, 150), (16, 2, 126, 249), (16, 3, 178, 345), (16, 4, 230, 438), (16, 5, 283, 526), (16, 6, 338, 610), (16, 7, 395, 688)]
def rS (k : Nat) : Int := (rowL.getD k (0, 0, 0, 0)).1
def rN (k : Nat) : Int := (rowL.getD k (0, 0, 0, 0)).2.1
def rP (k : Nat) : Int := (rowL.getD k (0, 0, 0, 0)).2.2.1
def rU (k : Nat) : Int := (rowL.getD k (0, 0, 0, 0)).2.2.2

/-- n is the number of a turn of the size s. -/
def tOk (s n : Int) : Bool := decide (szF s = 0 ∧ 0 ≤ n ∧ n ≤ s / 2 - 1)
/-- The row of a turn. -/
def ix (s n : Int) : Nat := (if s = 4 then n else if s = 8 then n + 2 else n + 6).toNat
def pV (s n : Int) : Int := rP (ix s n)
def uV (s n : Int) : Int := rU (ix s n)
def tC (s n : Int) : Int := if tOk s n = true then 0 else 3
def tA (s n : Int) : Int := if tOk s n = true then pV s n else 0
def tB (s n : Int) : Int := if tOk s n = true then uV s n else 0

theorem t_yes {s n : Int} (h : tOk s n = true) : tC s n = 0 ∧ tA s n = pV s n ∧ tB s n = uV s n := ⟨if_pos h, if_pos h, if_pos h⟩
theorem t_no {s n : Int} (h : tOk s n = false) : tC s n = 3 ∧ tA s n = 0 ∧ tB s n = 0 := by
  have h' : ¬ tOk s n = true := by rw [h]; simp
  exact ⟨if_neg h', if_neg h', if_neg h'⟩
theorem sz_cases {s : Int} (h : szF s = 0) : s = 4 ∨ s = 8 ∨ s = 16 := by
  unfold szF at h; split at h
  · assumption
  · cases h
theorem sz_03 (s : Int) : szF s = 0 ∨ szF s = 3 := by unfold szF; split <;> simp
/-- The fourteen turns. -/
theorem ok_cases {s n : Int} (h : tOk s n = true) : ∃ k : Nat, k < 14 ∧ s = rS k ∧ n = rN k ∧ pV s n = rP k ∧ uV s n = rU k := by
  obtain ⟨hs, h0, h1⟩ := of_decide_eq_true h
  obtain ⟨m, rfl⟩ := Int.eq_ofNat_of_zero_le h0
  rcases sz_cases hs with rfl | rfl | rfl
  · have : m < 2 := by omega
    rcases m with _ | _ | m <;> first | omega | exact ⟨_, by decide, rfl, rfl, rfl, rfl⟩
  · have : m < 4 := by omega
    rcases m with _ | _ | _ | _ | m <;> first | omega | exact ⟨_, by decide, rfl, rfl, rfl, rfl⟩
  · have : m < 8 := by omega
    rcases m with _ | _ | _ | _ | _ | _ | _ | _ | m <;> first | omega | exact ⟨_, by decide, rfl, rfl, rfl, rfl⟩
theorem row_ok : ∀ k : Nat, k < 14 → tOk (rS k) (rN k) = true ∧ pV (rS k) (rN k) = rP k ∧ uV (rS k) (rN k) = rU k := by decide
theorem row_bd : ∀ k : Nat, k < 14 → 1 ≤ rP k ∧ rP k ≤ 395 ∧ 1 ≤ rU k ∧ rU k ≤ 688 := by decide
theorem pu_bd {s n : Int} (h : tOk s n = true) : 1 ≤ pV s n ∧ pV s n ≤ 395 ∧ 1 ≤ uV s n ∧ uV s n ≤ 688 := by
  obtain ⟨k, hk, _, _, e1, e2⟩ := ok_cases h
  rw [e1, e2]; exact row_bd k hk

/-- A number within MaxWide. -/
def wd (a : Int) : Bool := inB (-137438953472) 137438953472 a
def ahA (p u a b : Int) : Int := (a - tenV (p * b)) - tenV (p * (b + tenV (u * (a - tenV (p * b)))))
def ahB (p u a b : Int) : Int := b + tenV (u * (a - tenV (p * b)))
def bkA (p u a b : Int) : Int := (a + tenV (p * b)) + tenV (p * (b - tenV (u * (a + tenV (p * b)))))
def bkB (p u a b : Int) : Int := b - tenV (u * (a + tenV (p * b)))
theorem bk_ah (p u a b : Int) : bkA p u (ahA p u a b) (ahB p u a b) = a ∧ bkB p u (ahA p u a b) (ahB p u a b) = b := by
  unfold bkA bkB ahA ahB
  have e1 : (a - tenV (p * b)) - tenV (p * (b + tenV (u * (a - tenV (p * b))))) + tenV (p * (b + tenV (u * (a - tenV (p * b))))) = a - tenV (p * b) := by omega
  rw [e1]
  have e2 : b + tenV (u * (a - tenV (p * b))) - tenV (u * (a - tenV (p * b))) = b := by omega
  rw [e2]
  omega
theorem ah_bk (p u a b : Int) : ahA p u (bkA p u a b) (bkB p u a b) = a ∧ ahB p u (bkA p u a b) (bkB p u a b) = b := by
  unfold bkA bkB ahA ahB
  have e1 : (a + tenV (p * b)) + tenV (p * (b - tenV (u * (a + tenV (p * b))))) - tenV (p * (b - tenV (u * (a + tenV (p * b))))) = a + tenV (p * b) := by omega
  rw [e1]
  have e2 : b - tenV (u * (a + tenV (p * b))) + tenV (u * (a + tenV (p * b))) = b := by omega
  rw [e2]
  omega

theorem ten_bd {v B : Int} (h1 : -B ≤ v) (h2 : v ≤ B) : -(B / 1024 + 1) ≤ tenV v ∧ tenV v ≤ B / 1024 + 1 := by
  unfold tenV; omega
theorem mul_bd {p b P B : Int} (h0 : 0 ≤ p) (h1 : p ≤ P) (h2 : -B ≤ b) (h3 : b ≤ B) (hB : 0 ≤ B) : -(P * B) ≤ p * b ∧ p * b ≤ P * B := by
  have a1 := Int.mul_le_mul_of_nonneg_left h3 h0
  have a2 := Int.mul_le_mul_of_nonneg_left h2 h0
  have a3 := Int.mul_le_mul_of_nonneg_right h1 hB
  rw [Int.mul_neg] at a2
  omega

/-- What is between the steps, and that none of it is too great: the products first, then what is told. -/
theorem ah_bd {p u a b : Int} (hp : 1 ≤ p ∧ p ≤ 395 ∧ 1 ≤ u ∧ u ≤ 688) (ha : -137438953472 ≤ a ∧ a ≤ 137438953472) (hb : -137438953472 ≤ b ∧ b ≤ 137438953472) :
    (-2000000000000000 ≤ p * b ∧ p * b ≤ 2000000000000000) ∧ (-300000000000 ≤ tenV (p * b) ∧ tenV (p * b) ≤ 300000000000) ∧
    (-2000000000000000 ≤ u * (a - tenV (p * b)) ∧ u * (a - tenV (p * b)) ≤ 2000000000000000) ∧ (-300000000000 ≤ tenV (u * (a - tenV (p * b))) ∧ tenV (u * (a - tenV (p * b))) ≤ 300000000000) ∧
    (-2000000000000000 ≤ p * (b + tenV (u * (a - tenV (p * b)))) ∧ p * (b + tenV (u * (a - tenV (p * b)))) ≤ 2000000000000000) ∧
    (-300000000000 ≤ tenV (p * (b + tenV (u * (a - tenV (p * b))))) ∧ tenV (p * (b + tenV (u * (a - tenV (p * b))))) ≤ 300000000000) := by
  have m1 := mul_bd (P := 395) (B := 137438953472) (by omega) hp.2.1 hb.1 hb.2 (by omega)
  have t1 := ten_bd (B := 395 * 137438953472) m1.1 m1.2
  have m2 := mul_bd (p := u) (b := a - tenV (p * b)) (P := 688) (B := 190500000000) (by omega) hp.2.2.2 (by omega) (by omega) (by omega)
  have t2 := ten_bd (B := 688 * 190500000000) m2.1 m2.2
  have m3 := mul_bd (p := p) (b := b + tenV (u * (a - tenV (p * b)))) (P := 395) (B := 266000000000) (by omega) hp.2.1 (by omega) (by omega) (by omega)
  have t3 := ten_bd (B := 395 * 266000000000) m3.1 m3.2
  refine ⟨⟨by omega, by omega⟩, ⟨by omega, by omega⟩, ⟨by omega, by omega⟩, ⟨by omega, by omega⟩, ⟨by omega, by omega⟩, ⟨by omega, by omega⟩⟩
theorem bk_bd {p u a b : Int} (hp : 1 ≤ p ∧ p ≤ 395 ∧ 1 ≤ u ∧ u ≤ 688) (ha : -137438953472 ≤ a ∧ a ≤ 137438953472) (hb : -137438953472 ≤ b ∧ b ≤ 137438953472) :
    (-2000000000000000 ≤ p * b ∧ p * b ≤ 2000000000000000) ∧ (-300000000000 ≤ tenV (p * b) ∧ tenV (p * b) ≤ 300000000000) ∧
    (-2000000000000000 ≤ u * (a + tenV (p * b)) ∧ u * (a + tenV (p * b)) ≤ 2000000000000000) ∧ (-300000000000 ≤ tenV (u * (a + tenV (p * b))) ∧ tenV (u * (a + tenV (p * b))) ≤ 300000000000) ∧
    (-2000000000000000 ≤ p * (b - tenV (u * (a + tenV (p * b)))) ∧ p * (b - tenV (u * (a + tenV (p * b)))) ≤ 2000000000000000) ∧
    (-300000000000 ≤ tenV (p * (b - tenV (u * (a + tenV (p * b))))) ∧ tenV (p * (b - tenV (u * (a + tenV (p * b))))) ≤ 300000000000) := by
  have m1 := mul_bd (P := 395) (B := 137438953472) (by omega) hp.2.1 hb.1 hb.2 (by omega)
  have t1 := ten_bd (B := 395 * 137438953472) m1.1 m1.2
  have m2 := mul_bd (p := u) (b := a + tenV (p * b)) (P := 688) (B := 190500000000) (by omega) hp.2.2.2 (by omega) (by omega) (by omega)
  have t2 := ten_bd (B := 688 * 190500000000) m2.1 m2.2
  have m3 := mul_bd (p := p) (b := b - tenV (u * (a + tenV (p * b)))) (P := 395) (B := 266000000000) (by omega) hp.2.1 (by omega) (by omega) (by omega)
  have t3 := ten_bd (B := 395 * 266000000000) m3.1 m3.2
  refine ⟨⟨by omega, by omega⟩, ⟨by omega, by omega⟩, ⟨by omega, by omega⟩, ⟨by omega, by omega⟩, ⟨by omega, by omega⟩, ⟨by omega, by omega⟩⟩

/-- The common answers of TurnPair and BackPair. -/
def tpO (s n a b : Int) : Bool := tOk s n && (wd a && wd b)
def tpC (s n a b : Int) : Int := if tpO s n a b = true then 0 else 3
def tpA (s n a b : Int) : Int := if tpO s n a b = true then ahA (pV s n) (uV s n) a b else 0
def tpB (s n a b : Int) : Int := if tpO s n a b = true then ahB (pV s n) (uV s n) a b else 0
def bpA (s n a b : Int) : Int := if tpO s n a b = true then bkA (pV s n) (uV s n) a b else 0
def bpB (s n a b : Int) : Int := if tpO s n a b = true then bkB (pV s n) (uV s n) a b else 0
theorem tp_yes {s n a b : Int} (h : tpO s n a b = true) : tpC s n a b = 0 ∧ (tpA s n a b = ahA (pV s n) (uV s n) a b ∧ tpB s n a b = ahB (pV s n) (uV s n) a b) ∧ (bpA s n a b = bkA (pV s n) (uV s n) a b ∧ bpB s n a b = bkB (pV s n) (uV s n) a b) :=
  ⟨if_pos h, ⟨if_pos h, if_pos h⟩, ⟨if_pos h, if_pos h⟩⟩
theorem tp_no {s n a b : Int} (h : tpO s n a b = false) : tpC s n a b = 3 ∧ (tpA s n a b = 0 ∧ tpB s n a b = 0) ∧ (bpA s n a b = 0 ∧ bpB s n a b = 0) := by
  have h' : ¬ tpO s n a b = true := by rw [h]; simp
  exact ⟨if_neg h', ⟨if_neg h', if_neg h'⟩, ⟨if_neg h', if_neg h'⟩⟩
/-- The common answers of MixPair and PartPair. -/
def mxO (a b : Int) : Bool := wd a && wd b
def mxC (a b : Int) : Int := if mxO a b = true then 0 else 3
def mxA (a b : Int) : Int := if mxO a b = true then b + (a - b) / 2 else 0
def mxB (a b : Int) : Int := if mxO a b = true then a - b else 0
def ptA (s d : Int) : Int := if mxO s d = true then (s - d / 2) + d else 0
def ptB (s d : Int) : Int := if mxO s d = true then s - d / 2 else 0
theorem mx_yes {a b : Int} (h : mxO a b = true) : mxC a b = 0 ∧ (mxA a b = b + (a - b) / 2 ∧ mxB a b = a - b) ∧ (ptA a b = (a - b / 2) + b ∧ ptB a b = a - b / 2) :=
  ⟨if_pos h, ⟨if_pos h, if_pos h⟩, ⟨if_pos h, if_pos h⟩⟩
theorem mx_no {a b : Int} (h : mxO a b = false) : mxC a b = 3 ∧ (mxA a b = 0 ∧ mxB a b = 0) ∧ (ptA a b = 0 ∧ ptB a b = 0) := by
  have h' : ¬ mxO a b = true := by rw [h]; simp
  exact ⟨if_neg h', ⟨if_neg h', if_neg h'⟩, ⟨if_neg h', if_neg h'⟩⟩
end Go.Proofs.Ytodfkicmmcfkaaa.TurM
