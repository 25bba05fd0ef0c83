/- math/bits at sixteen bits: how many digits a number has, and how many noughts stand behind its last 1. Condition: the library's table holds what its text lays. -/
import Derived.Test.YtlljdehjlbmgcaaDoorSli
import Derived.Test.YtlljdehjlbmgcaaDoorFlipM
namespace Go.Proofs.YtlljdehjlbmgcaaDoor.Bits
open Go.ChangeShapes Go.WideShapes Go.ChangeAt Go.RowKit Go.Proofs.YtlljdehjlbmgcaaDoor.Num Go.Proofs.YtlljdehjlbmgcaaDoor.Sli Go.Proofs.YtlljdehjlbmgcaaDoor.CrcM Go.Proofs.YtlljdehjlbmgcaaDoor.FlipM

/-- The table of math/bits. -/
def tabL : List Int := [0, 1, 28, 2, 29, 14, 24, 3, 30, 22, 20, 15, 25, 17, 4, 8, 31, 27, 13, 23, 21, 19, 16, 7, 26, 12, 18, 6, 11, 5, 10, 9]
/-- The variable of the library holds it. -/
def Tab (w : World) : Prop := 0 < w.heap.size ∧ ∀ i, i < 32 → w.cell? ⟨0, i, none⟩ = some (.int .u8 (tabL.getD i 0))
theorem Tab.later {w w' : World} (h : Tab w) (hb : Below w.heap.size w w') : Tab w' :=
  ⟨Nat.lt_of_lt_of_le h.1 hb.size, fun i hi => (hb.cell (p := ⟨0, i, none⟩) h.1).trans (h.2 i hi)⟩

/-- The text of math/bits: how many digits a byte has. -/
def lit8 : ByteArray := ⟨#[0, 1, 2, 2, 3, 3, 3, 3, 4, 4, 4, 4, 4, 4, 4, 4, 5, 5, 5, 5, 5, 5, 5, 5, 5, 5, 5, 5, 5, 5, 5, 5, 6, 6, 6, 6, 6, 6, 6, 6, 6, 6, 6, 6, 6, 6, 6, 6, 6, 6, 6, 6, 6, 6, 6, 6, 6, 6, 6, 6, 6, 6, 6, 6, 7, 7, 7, 7, 7, 7, 7, 7, 7, 7, 7, 7, 7, 7, 7, 7, 7, 7, 7, 7, 7, 7, 7, 7, 7, 7, 7, 7, 7, 7, 7, 7, 7, 7, 7, 7, 7, 7, 7, 7, 7, 7, 7, 7, 7, 7, 7, 7, 7, 7, 7, 7, 7, 7, 7, 7, 7, 7, 7, 7, 7, 7, 7, 7, 8, 8, 8, 8, 8, 8, 8, 8, 8, 8, 8, 8, 8, 8, 8, 8, 8, 8, 8, 8, 8, 8, 8, 8, 8, 8, 8, 8, 8, 8, 8, 8, 8, 8, 8, 8, 8, 8, 8, 8, 8, 8, 8, 8, 8, 8, 8, 8, 8, 8, 8, 8, 8, 8, 8, 8, 8, 8, 8, 8, 8, 8, 8, 8, 8, 8, 8, 8, 8, 8, 8, 8, 8, 8, 8, 8, 8, 8, 8, 8, 8, 8, 8, 8, 8, 8, 8, 8, 8, 8, 8, 8, 8, 8, 8, 8, 8, 8, 8, 8, 8, 8, 8, 8, 8, 8, 8, 8, 8, 8, 8, 8, 8, 8, 8, 8, 8, 8, 8, 8, 8, 8, 8, 8, 8, 8, 8, 8]⟩
set_option maxRecDepth 100000 in
theorem key8 : ∀ k : Fin 256, (lit8.data.getD k.1 0).toNat = if k.1 = 0 then 0 else Nat.log2 k.1 + 1 := by decide +kernel
theorem len_log {b L : Nat} (h : Len b L) : L = Nat.log2 b + 1 := by
  obtain ⟨h1, h2, h3, h4⟩ := h
  have hb : b ≠ 0 := by have := Nat.two_pow_pos (L - 1); omega
  have a1 : L - 1 ≤ Nat.log2 b := (Nat.le_log2 hb).2 h3
  have a2 : Nat.log2 b < L := (Nat.log2_lt hb).2 h4
  omega
theorem len8_at (b L : Nat) (hs : b < lit8.size) (h : b < 256) (hL : Len b L) : (lit8[b]'hs).toNat = L := by
  have k := key8 ⟨b, h⟩
  have hb : b ≠ 0 := by have := Nat.two_pow_pos (L - 1); have := hL.2.2.1; omega
  simp only [hb, if_false] at k
  rw [len_log hL, ← k]
  have hs' : b < lit8.data.size := hs
  rw [Array.getD_eq_getD_getElem?, Array.getElem?_eq_getElem hs', Option.getD_some]
  rfl
theorem len_hi {b L : Nat} (h : Len b L) (hb : 256 ≤ b) : Len (b / 256) (L - 8) ∧ 9 ≤ L := by
  obtain ⟨h1, h2, h3, h4⟩ := h
  have h9 : 9 ≤ L := by
    rcases Nat.lt_or_ge L 9 with hl | hl
    · have : 2 ^ L ≤ 2 ^ 8 := Nat.pow_le_pow_right (by decide) (by omega)
      omega
    · exact hl
  refine ⟨⟨by omega, by omega, ?_, ?_⟩, h9⟩
  · rw [Nat.le_div_iff_mul_le (by decide), show 256 = 2 ^ 8 from rfl, ← Nat.pow_add, show L - 8 - 1 + 8 = L - 1 by omega]; exact h3
  · rw [Nat.div_lt_iff_lt_mul (by decide), show 256 = 2 ^ 8 from rfl, ← Nat.pow_add, show L - 8 + 8 = L by omega]; exact h4
theorem wr_lo {n L : Nat} (h : n = L) (hL : L ≤ 16) : wrap64 (wrap64 (n : Int)) = L := by subst h; rw [wrap_of (x := (n : Int)) (by omega) (by omega), wrap_of (by omega) (by omega)]
theorem wr_hi {n L : Nat} (h : n = L - 8) (h8 : 9 ≤ L) (hL : L ≤ 16) : wrap64 (8 + wrap64 (n : Int)) = L := by subst h; rw [wrap_of (x := ((L - 8 : Nat) : Int)) (by omega) (by omega), wrap_of (by omega) (by omega)]; omega
set_option maxHeartbeats 1000000 in
set_option maxRecDepth 100000 in
theorem len16_calls (b L : Nat) (w : World) (h : Len b L) (hb16 : b < 65536) : Calls Tryd.prog 43 #[.int .u16 b] w fun e w' => e = .returned (.int .i64 L) ∧ w' = w := by
  have hL := h.2.1
  by_cases hb : b < 256
  · have hb' : (b : Int) < 256 := by omega
    have H := hid h
    clear h
    go_enter Tryd.func43, Tryd.ntmps43
    go_wp2
    go_ret
    exact ⟨ret_int (wr_lo (len8_at b L (by exact hb) hb H.out) hL), rfl⟩
  · have hb' : (256 : Int) ≤ (b : Int) := by omega
    have hq : b / 256 < 256 := by omega
    have hq' : (b : Int) / 256 = ((b / 256 : Nat) : Int) := by omega
    have H := hid (len_hi h (by omega))
    clear h hb
    generalize b / 256 = q at *
    have hq2 : (q : Int) < 256 := by omega
    go_enter Tryd.func43, Tryd.ntmps43
    go_wp2
    go_ret
    exact ⟨ret_int (wr_hi (len8_at q (L - 8) (by exact hq) hq H.out.1) H.out.2 hL), rfl⟩
theorem tz_at (t : Nat) (ht : t < 16) : tabL.getD (2 ^ t % 4294967296 * 125613361 % 4294967296 / 134217728) 0 = (t : Int) ∧ 2 ^ t % 4294967296 * 125613361 % 4294967296 / 134217728 < 32 := by
  rcases cases16 ht with rfl | rfl | rfl | rfl | rfl | rfl | rfl | rfl | rfl | rfl | rfl | rfl | rfl | rfl | rfl | rfl <;> decide
theorem tz_cell {x t : Nat} {w : World} (hT : Tab w) (hx : x < 65536) (h : x % 2 ^ (t + 1) = 2 ^ t) :
    w.cell? ⟨0, (bits .and .u16 (x : Int) (IntKind.u16.wrap (-(x : Int))) % 4294967296 * 125613361 % 4294967296 / 134217728).toNat, none⟩ = some (.int .u8 t) := by
  have ht := low_lt h hx
  have hx0 : 0 < x := by
    rcases Nat.eq_zero_or_pos x with h0 | h0
    · rw [h0] at h; have := Nat.two_pow_pos t; simp at h; omega
    · exact h0
  have e1 : IntKind.u16.wrap (-(x : Int)) = ((65536 - x : Nat) : Int) := by rw [IntKind.wrap_u16]; omega
  have e2 : bits .and .u16 (x : Int) (IntKind.u16.wrap (-(x : Int))) = ((2 ^ t : Nat) : Int) := by
    rw [e1, u16_and_nat x (65536 - x) hx (by omega), and_neg h hx]
  obtain ⟨a1, a2⟩ := tz_at t ht
  have e3 : (((2 ^ t : Nat) : Int) % 4294967296 * 125613361 % 4294967296 / 134217728).toNat = 2 ^ t % 4294967296 * 125613361 % 4294967296 / 134217728 := by
    generalize 2 ^ t = q
    rw [show ((q : Nat) : Int) % 4294967296 = ((q % 4294967296 : Nat) : Int) by omega]
    generalize q % 4294967296 = r
    rw [show ((r : Nat) : Int) * 125613361 % 4294967296 = ((r * 125613361 % 4294967296 : Nat) : Int) by omega]
    generalize r * 125613361 % 4294967296 = u
    omega
  rw [e2, e3, hT.2 _ a2, a1]
theorem tz16_calls (x t : Nat) (w : World) (hT : Tab w) (hx : x < 65536) (h : x % 2 ^ (t + 1) = 2 ^ t) : Calls Tryd.prog 39 #[.int .u16 x] w fun e w' => e = .returned (.int .i64 t) ∧ w' = w := by
  have hx0 : ((x : Int) == 0) = false := by
    have : x ≠ 0 := by intro h0; rw [h0] at h; have := Nat.two_pow_pos t; simp at h; omega
    simpa using this
  have hc := tz_cell hT hx h
  have ht := low_lt h hx
  clear hT h
  go_enter Tryd.func39, Tryd.ntmps39
  go_wp2
  go_ret
  exact ⟨rfl, rfl⟩
end Go.Proofs.YtlljdehjlbmgcaaDoor.Bits
