/- Values: the plain mathematics: the number of a value, its class, its slots. -/
import Derived.Test.YthecfboplfmdmaaDoorSlS
namespace Go.Proofs.YthecfboplfmdmaaDoor.ValZ
open Go.Proofs.YthecfboplfmdmaaDoor.Num Go.Proofs.YthecfboplfmdmaaDoor.Dec Go.Proofs.YthecfboplfmdmaaDoor.RangeM Go.Proofs.YthecfboplfmdmaaDoor.SlS

/-- The number of a value, and the value of a number. -/
def zg (v : Int) : Nat := if v < 0 then (-2 * v - 1).toNat else (2 * v).toNat
def uz (z : Nat) : Int := if z % 2 = 1 then -(((z + 1) / 2 : Nat) : Int) else ((z / 2 : Nat) : Int)
theorem uz_zg (v : Int) : uz (zg v) = v := by unfold uz zg; split <;> split <;> omega
theorem zg_uz (z : Nat) : zg (uz z) = z := by unfold uz zg; split <;> split <;> omega
def isV (v : Int) : Prop := -65535 ≤ v ∧ v ≤ 65535
theorem zg_le {v : Int} (h : isV v) : zg v ≤ 131070 := by obtain ⟨h1, h2⟩ := h; unfold zg; split <;> omega
theorem isV_uz {z : Nat} (h : z ≤ 131070) : isV (uz z) := by unfold isV uz; split <;> omega
theorem uz_out {z : Nat} (h : 131070 < z) : ¬ isV (uz z) := by unfold isV uz; split <;> omega

/-- The class of a number. -/
def cl (z : Nat) : Nat := if z = 0 then 0 else Nat.log2 z + 1
theorem cl_zero : cl 0 = 0 := rfl
theorem cl_bd {z : Nat} (h : z ≠ 0) : 1 ≤ cl z ∧ 2 ^ (cl z - 1) ≤ z ∧ z < 2 ^ cl z := by
  unfold cl
  rw [if_neg h]
  exact ⟨by omega, by simpa using Nat.log2_self_le h, Nat.lt_log2_self⟩
theorem cl_le {z : Nat} (h : z ≤ 131071) : cl z ≤ 17 := by
  unfold cl
  split
  · omega
  · rename_i h0
    have : Nat.log2 z < 17 := (Nat.log2_lt h0).2 (by omega)
    omega
theorem cl_of {z c : Nat} (h1 : 1 ≤ c) (h2 : 2 ^ (c - 1) ≤ z) (h3 : z < 2 ^ c) : cl z = c := by
  have hp := Nat.two_pow_pos (c - 1)
  have h0 : z ≠ 0 := by omega
  obtain ⟨k1, k2, k3⟩ := cl_bd h0
  have a : c - 1 < cl z := (Nat.pow_lt_pow_iff_right (a := 2) (by decide)).1 (Nat.lt_of_le_of_lt h2 k3)
  have b : cl z - 1 < c := (Nat.pow_lt_pow_iff_right (a := 2) (by decide)).1 (Nat.lt_of_le_of_lt k2 h3)
  omega
/-- The slot of a class. -/
def shr : Nat → Nat
  | 0 => 96
  | 1 => 48
  | 2 => 40
  | 3 => 24
  | 4 => 16
  | 5 => 8
  | _ => 2
def lwc : Nat → Nat
  | 0 => 0
  | c + 1 => lwc c + shr c
theorem lwc_bd : ∀ c, c < 18 → lwc c + shr c ≤ 256 ∧ 2 ≤ shr c := by decide
/-- The class in whose slot a number lies. -/
def cOf (x : Nat) : Nat := if x < 96 then 0 else if x < 144 then 1 else if x < 184 then 2 else if x < 208 then 3 else if x < 224 then 4 else if x < 232 then 5 else 6 + (x - 232) / 2
theorem cOf_in : ∀ x, x < 256 → cOf x < 18 ∧ lwc (cOf x) ≤ x ∧ x < lwc (cOf x) + shr (cOf x) := by decide +kernel
theorem cOf_eq : ∀ c, c < 18 → ∀ x, x < 256 → lwc c ≤ x → x < lwc c + shr c → cOf x = c := by decide +kernel
theorem lwc_step : ∀ c, c < 18 → ∀ d, d < c → lwc d + shr d ≤ lwc c := by decide +kernel

/-- The pieces of a rest: how many digits. -/
def pcs (c : Nat) : List Nat := if c < 2 then [] else if 8 < c - 1 then [c - 9, 8] else [c - 1]
/-- The slots of a number. -/
def cSl (c : Nat) : Sl3 := ((lwc c : Int), (shr c : Int), 256)
def pSl (x k : Nat) : Sl3 := ((x : Int), 1, ((2 ^ k : Nat) : Int))
def rSl (z c : Nat) : List Sl3 := if c < 2 then [] else if 8 < c - 1 then [pSl (z / 256 % 2 ^ (c - 9)) (c - 9), pSl (z % 256) 8] else [pSl (z % 2 ^ (c - 1)) (c - 1)]
def zSl (z : Nat) : List Sl3 := cSl (cl z) :: rSl z (cl z)
theorem rSl_len (z c : Nat) : (rSl z c).length ≤ 2 := by unfold rSl; split <;> (try split) <;> simp
theorem zSl_len (z : Nat) : 1 ≤ (zSl z).length ∧ (zSl z).length ≤ 3 := by
  have := rSl_len z (cl z)
  unfold zSl
  rw [List.length_cons]
  omega
theorem cSl_ok {c : Nat} (h : c < 18) : sG (cSl c) = 0 := by
  obtain ⟨h1, h2⟩ := lwc_bd c h
  unfold sG cSl sF inB
  dsimp only
  rw [if_pos]
  simp only [Bool.and_eq_true, decide_eq_true_eq]
  omega
theorem pSl_ok {x k : Nat} (hk : k ≤ 8) (hx : x < 2 ^ k) : sG (pSl x k) = 0 := by
  have h1 : 2 ^ k ≤ 2 ^ 8 := Nat.pow_le_pow_right (by decide) hk
  unfold sG pSl sF inB
  dsimp only
  generalize 2 ^ k = t at *
  rw [if_pos]
  simp only [Bool.and_eq_true, decide_eq_true_eq]
  omega
theorem zSl_ok {z : Nat} (h : z ≤ 131071) : ∀ s ∈ zSl z, sG s = 0 := by
  have hc := cl_le h
  intro s hs
  unfold zSl rSl at hs
  rcases List.mem_cons.1 hs with rfl | hs
  · exact cSl_ok (by omega)
  · split at hs
    · cases hs
    · split at hs
      · rcases List.mem_cons.1 hs with rfl | hs
        · exact pSl_ok (by omega) (Nat.mod_lt _ (Nat.two_pow_pos _))
        · rcases List.mem_cons.1 hs with rfl | hs
          · exact pSl_ok (by omega) (Nat.mod_lt _ (by decide))
          · cases hs
      · rcases List.mem_cons.1 hs with rfl | hs
        · exact pSl_ok (by omega) (Nat.mod_lt _ (Nat.two_pow_pos _))
        · cases hs
/-- The slots of values, one behind the other; their bytes. -/
def vSl : List Int → List Sl3
  | [] => []
  | v :: t => zSl (zg v) ++ vSl t
def vB (vs : List Int) : List Int := encL (sns (vSl vs))
def allV (vs : List Int) : Prop := ∀ v ∈ vs, isV v
theorem vSl_append (a b : List Int) : vSl (a ++ b) = vSl a ++ vSl b := by
  induction a with
  | nil => rfl
  | cons v t ih => simp only [List.cons_append, vSl, ih, List.append_assoc]
theorem vSl_len (vs : List Int) : (vSl vs).length ≤ 3 * vs.length := by
  induction vs with
  | nil => simp [vSl]
  | cons v t ih =>
    have := zSl_len (zg v)
    simp only [vSl, List.length_append, List.length_cons]
    omega
theorem vSl_mem {vs : List Int} (h : allV vs) : ∀ s ∈ vSl vs, sG s = 0 := by
  induction vs with
  | nil => intro s hs; cases hs
  | cons v t ih =>
    intro s hs
    rcases List.mem_append.1 hs with hs | hs
    · exact zSl_ok (by have := zg_le (h v (by simp)); omega) s hs
    · exact ih (fun x hx => h x (by simp [hx])) s hs
theorem mem_ok {ls : List Sl3} (h : ∀ s ∈ ls, sG s = 0) : ∀ j, j < ls.length → sG (ls.getD j (0, 0, 0)) = 0 := by
  intro j hj
  rw [List.getD_eq_getElem?_getD, List.getElem?_eq_getElem hj]
  exact h _ (List.getElem_mem hj)
theorem vSl_ok {vs : List Int} (h : allV vs) : ∀ j, j < (vSl vs).length → sG ((vSl vs).getD j (0, 0, 0)) = 0 := mem_ok (vSl_mem h)
end Go.Proofs.YthecfboplfmdmaaDoor.ValZ
