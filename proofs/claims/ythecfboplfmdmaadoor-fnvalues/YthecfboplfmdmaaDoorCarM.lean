/- The mathematics of a carry, byte by byte, and of a byte that is shifted out. -/
import Derived.Test.YthecfboplfmdmaaDoorRangeM
namespace Go.Proofs.YthecfboplfmdmaaDoor.CarM
open Go.Proofs.YthecfboplfmdmaaDoor.CrcM Go.Proofs.YthecfboplfmdmaaDoor.RangeM

theorem digs_pad (m x j : Nat) : digs (m + j) (x * 256 ^ j) = digs m x ++ List.replicate j (0 : Int) := by
  induction j with
  | zero => simp
  | succ j ih =>
    have e : x * 256 ^ (j + 1) = x * 256 ^ j * 256 := by rw [Nat.pow_succ, Nat.mul_assoc]
    rw [show m + (j + 1) = (m + j) + 1 from rfl]
    simp only [digs]
    rw [e, show x * 256 ^ j * 256 / 256 = x * 256 ^ j by omega, show x * 256 ^ j * 256 % 256 = 0 by omega, ih, List.append_assoc, List.replicate_succ']
    rfl
/-- Behind j bytes that were 255: m bytes of u, and j zeros. -/
def st (m j u : Nat) : List Int := digs m u ++ List.replicate j 0
theorem st_len (m j u : Nat) : (st m j u).length = m + j := by simp [st, digs_len]
theorem st_zero (k v : Nat) : st k 0 v = digs k v := by simp [st]
theorem st_get (m j u : Nat) : (st (m + 1) j u).getD m 0 = ((u % 256 : Nat) : Int) := by
  unfold st
  simp only [digs]
  rw [List.getD_eq_getElem?_getD, List.append_assoc, List.getElem?_append_right (by rw [digs_len]; omega), digs_len]
  simp
theorem st_set (m j u : Nat) (x : Int) : (st (m + 1) j u).set m x = digs m (u / 256) ++ (x :: List.replicate j 0) := by
  unfold st
  simp only [digs]
  rw [List.append_assoc, List.set_append_right _ _ (by rw [digs_len]; omega), digs_len]
  simp
theorem st_next (m j u : Nat) : (st (m + 1) j u).set m 0 = st m (j + 1) (u / 256) := by
  rw [st_set, st, List.replicate_succ]
theorem st_done (m j u : Nat) (h : u % 256 ≠ 255) : (st (m + 1) j u).set m (((u % 256 : Nat) : Int) + 1) = digs (m + 1 + j) ((u + 1) * 256 ^ j) := by
  rw [st_set, digs_pad]
  simp only [digs]
  rw [show (u + 1) / 256 = u / 256 by omega, show (u + 1) % 256 = u % 256 + 1 by omega, List.append_assoc]
  rfl
theorem st_step {u j v : Nat} (h : v + 1 = (u + 1) * 256 ^ j) (hb : u % 256 = 255) : v + 1 = (u / 256 + 1) * 256 ^ (j + 1) := by
  rw [h, Nat.pow_succ, show u + 1 = (u / 256 + 1) * 256 by omega, Nat.mul_assoc, Nat.mul_comm 256 (256 ^ j)]
theorem st_some {u j v k : Nat} (h : v + 1 = (u + 1) * 256 ^ j) (hv : v + 1 < 256 ^ k) : j < k := by
  by_cases hj : j < k
  · exact hj
  · exfalso
    have h1 : 256 ^ k ≤ 256 ^ j := Nat.pow_le_pow_right (by decide) (by omega)
    have h2 : 256 ^ j ≤ (u + 1) * 256 ^ j := Nat.le_mul_of_pos_left _ (by omega)
    omega

/-- One byte is shifted out of low. -/
theorem shift_out (k n : Nat) : digs (k + 1) (n * 256 / 16777216) = digs k (n / 16777216) ++ [((n % 16777216 / 65536 : Nat) : Int)] ∧ n * 256 % 16777216 = n % 16777216 % 65536 * 256 := by
  have e : n * 256 / 16777216 = n / 16777216 * 256 + n % 16777216 / 65536 := by omega
  rw [e, digs_snoc k _ _ (by omega)]
  exact ⟨rfl, by omega⟩
end Go.Proofs.YthecfboplfmdmaaDoor.CarM
