/- The mathematics of the bands themselves: where they lie, their norms, and that these are all of the upper half. No program is spoken of. -/
import Derived.Test.YtodfkicmmcfkaaaBanM
namespace Go.Proofs.Ytodfkicmmcfkaaa.BanN
open Go.ChangeShapes Go.WideShapes Go.ChangeAt Go.RowKit Go.Proofs.Ytodfkicmmcfkaaa.Num Go.Proofs.Ytodfkicmmcfkaaa.Div Go.Proofs.Ytodfkicmmcfkaaa.Samp Go.Proofs.Ytodfkicmmcfkaaa.Norm Go.Proofs.Ytodfkicmmcfkaaa.HalM Go.Proofs.Ytodfkicmmcfkaaa.LadM Go.Proofs.Ytodfkicmmcfkaaa.BloS Go.Proofs.Ytodfkicmmcfkaaa.BanM

def bnL (s : Int) : List (Int × Int) := if s = 4 then [(2, 2)] else if s = 8 then [(4, 2), (6, 2)] else [(8, 4), (12, 4)]
def bsC (s : Int) : Int := szF s
def bsL (s : Int) : List (Int × Int) := if szF s = 0 then bnL s else []
def bdL (l : List Int) (b : Int × Int) : List Int := (l.drop b.1.toNat).take b.2.toNat
def bnNs (s : Int) (l : List Int) : List Int := (bnL s).map (fun b => sumAbs (bdL l b))
def bnC (s : Int) (l : List Int) : Int := cfC s l
def bnV (s : Int) (l : List Int) : List Int := if cfC s l = 0 then bnNs s l else []
/-- How long a band is, how many there are. -/
def bD (s : Int) : Nat := if s = 16 then 4 else 2
def bC (s : Int) : Nat := if s = 4 then 1 else 2
theorem bn_len {s : Int} (h : s = 4 ∨ s = 8 ∨ s = 16) : (bnL s).length = bC s := by rcases h with rfl | rfl | rfl <;> rfl
theorem bn_end {s : Int} (h : s = 4 ∨ s = 8 ∨ s = 16) : s / 2 + (bD s : Int) * (bC s : Int) = s := by rcases h with rfl | rfl | rfl <;> rfl
theorem bd_or (s : Int) : bD s = 2 ∨ bD s = 4 := by unfold bD; split <;> omega
theorem bc_or (s : Int) : bC s = 1 ∨ bC s = 2 := by unfold bC; split <;> omega
theorem bn_get {s : Int} (h : s = 4 ∨ s = 8 ∨ s = 16) {j : Nat} (hj : j < bC s) : (bnL s).getD j (0, 0) = (s / 2 + (bD s : Int) * (j : Int), (bD s : Int)) := by
  have h1 := bc_or s
  have e : j = 0 ∨ j = 1 := by omega
  rcases h with rfl | rfl | rfl
  · have : bC 4 = 1 := rfl
    rcases e with rfl | rfl
    · rfl
    · omega
  · rcases e with rfl | rfl <;> rfl
  · rcases e with rfl | rfl <;> rfl
theorem ns_len {s : Int} (h : s = 4 ∨ s = 8 ∨ s = 16) (l : List Int) : (bnNs s l).length = bC s := by unfold bnNs; rw [List.length_map, bn_len h]
theorem ns_get {s : Int} (h : s = 4 ∨ s = 8 ∨ s = 16) (l : List Int) {j : Nat} (hj : j < bC s) : (bnNs s l).getD j 0 = sumAbs (bdL l (s / 2 + (bD s : Int) * (j : Int), (bD s : Int))) := by
  have h1 := bn_get h hj
  have h2 := bn_len h
  unfold bnNs
  rw [List.getD_eq_getElem?_getD, List.getElem?_map, List.getElem?_eq_getElem (by omega)]
  rw [List.getD_eq_getElem?_getD, List.getElem?_eq_getElem (by omega)] at h1
  simp only [Option.map_some, Option.getD_some] at *
  rw [h1]
theorem ns_take {s : Int} (h : s = 4 ∨ s = 8 ∨ s = 16) (l : List Int) {j : Nat} (hj : j < bC s) : (bnNs s l).take (j + 1) = (bnNs s l).take j ++ [sumAbs (bdL l (s / 2 + (bD s : Int) * (j : Int), (bD s : Int)))] := by
  rw [← ns_get h l hj]
  exact take_snoc _ _ (by rw [ns_len h]; exact hj)
theorem sum_app (a b : List Int) : sumAbs (a ++ b) = sumAbs a + sumAbs b := by
  unfold sumAbs; rw [List.map_append, List.sum_append]
/-- The norms up to a band are all that lies ahead of it in the upper half. -/
theorem ns_sum {s : Int} (h : s = 4 ∨ s = 8 ∨ s = 16) (l : List Int) : ∀ j : Nat, j ≤ bC s → ((bnNs s l).take j).sum = sumAbs ((l.drop (s / 2).toNat).take (bD s * j)) := by
  intro j
  induction j with
  | zero => intro _; simp [sumAbs]
  | succ n ih =>
    intro hj
    rw [ns_take h l (by omega), List.sum_append, ih (by omega)]
    have e1 : bD s * (n + 1) = bD s * n + bD s := by rw [Nat.mul_add, Nat.mul_one]
    rw [e1, List.take_add, sum_app, List.drop_drop]
    unfold bdL
    have hs : 0 ≤ s / 2 := by omega
    have e3 : ((bD s * n : Nat) : Int) = (bD s : Int) * (n : Int) := by simp
    generalize hx : bD s * n = x at *
    generalize hy : (bD s : Int) * (n : Int) = y at *
    have e2 : (s / 2 + y).toNat = (s / 2).toNat + x := by omega
    simp only [e2, Int.toNat_natCast, List.sum_cons, List.sum_nil, Int.add_zero]
theorem ns_all {s : Int} {l : List Int} (h : s = 4 ∨ s = 8 ∨ s = 16) (hl : (l.length : Int) = s) : (bnNs s l).sum = sumAbs (l.drop (s / 2).toNat) := by
  have h1 := ns_sum h l (bC s) (Nat.le_refl _)
  rw [List.take_of_length_le (by rw [ns_len h]; exact Nat.le_refl _)] at h1
  rw [h1, List.take_of_length_le]
  rw [List.length_drop]
  have h2 := bn_end h
  have e3 : ((bD s * bC s : Nat) : Int) = (bD s : Int) * (bC s : Int) := by simp
  generalize bD s * bC s = x at *
  generalize (bD s : Int) * (bC s : Int) = y at *
  omega
theorem bnV_len (s : Int) (l : List Int) : (bnV s l).length ≤ 2 := by
  unfold bnV
  split
  · rename_i h
    rw [ns_len (cf_yes h).1]
    have := bc_or s; omega
  · simp
theorem co_top {l : List Int} (h : l.all coB = true) : l.all topB = true := by
  rw [List.all_eq_true] at *
  intro x hx
  have := of_inB (h x hx)
  exact inB_yes (by omega) (by omega)
theorem all_sub {P : Int → Bool} {l m : List Int} (h : l.all P = true) (hm : ∀ x ∈ m, x ∈ l) : m.all P = true := by
  rw [List.all_eq_true] at *
  exact fun x hx => h x (hm x hx)
theorem all_drop {P : Int → Bool} {l : List Int} (h : l.all P = true) (n : Nat) : (l.drop n).all P = true := all_sub h (fun _ hx => List.mem_of_mem_drop hx)
theorem all_bd {P : Int → Bool} {l : List Int} (h : l.all P = true) (b : Int × Int) : (bdL l b).all P = true := all_sub h (fun _ hx => List.mem_of_mem_drop (List.mem_of_mem_take hx))
theorem sum_small {l : List Int} (h : l.all coB = true) (hl : l.length ≤ 16) : 0 ≤ sumAbs l ∧ sumAbs l ≤ 268435456 := by
  have key : ∀ (l : List Int), l.all coB = true → 0 ≤ sumAbs l ∧ sumAbs l ≤ (l.length : Int) * 16777216 := by
    intro l
    induction l with
    | nil => intro _; exact ⟨Int.le_refl _, Int.le_refl _⟩
    | cons x t ih =>
      intro h
      simp only [List.all_cons, Bool.and_eq_true] at h
      have h1 := of_inB h.1
      have h2 := ih h.2
      have h3 := absV_bd x
      have e : sumAbs (x :: t) = absV x + sumAbs t := by simp [sumAbs]
      rw [e, List.length_cons]
      omega
  have := key l h
  omega
/-- What a mask is, step by step. -/
theorem msk_0 {l h : Int} (q : ¬ 4 * h < l) : mskV l h = 0 := by unfold mskV; rw [if_pos (by omega)]
theorem msk_1 {l h : Int} (q0 : 4 * h < l) (q : ¬ 16 * h < l) : mskV l h = 1 := by unfold mskV; rw [if_neg (by omega), if_pos (by omega)]
theorem msk_2 {l h : Int} (q0 : 4 * h < l) (q1 : 16 * h < l) (q : ¬ 64 * h < l) : mskV l h = 2 := by unfold mskV; rw [if_neg (by omega), if_neg (by omega), if_pos (by omega)]
theorem msk_3 {l h : Int} (q0 : 4 * h < l) (q1 : 16 * h < l) (q : 64 * h < l) : mskV l h = 3 := by unfold mskV; rw [if_neg (by omega), if_neg (by omega), if_neg (by omega)]
end Go.Proofs.Ytodfkicmmcfkaaa.BanN
