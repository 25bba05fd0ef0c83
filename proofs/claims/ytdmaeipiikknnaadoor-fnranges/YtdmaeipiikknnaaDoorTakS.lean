/- A slot is taken: the mathematics in whole numbers, and the model's l3Take. -/
import Derived.Test.YtdmaeipiikknnaaDoorByte
namespace Go.Proofs.YtdmaeipiikknnaaDoor.TakS
open Go.ChangeShapes Go.WideShapes Go.ChangeAt Go.RowKit Go.Proofs.YtdmaeipiikknnaaDoor.Num Go.Proofs.YtdmaeipiikknnaaDoor.Sli Go.Proofs.YtdmaeipiikknnaaDoor.App Go.Proofs.YtdmaeipiikknnaaDoor.Byt Go.Proofs.YtdmaeipiikknnaaDoor.CrcM Go.Proofs.YtdmaeipiikknnaaDoor.Str Go.Proofs.YtdmaeipiikknnaaDoor.Div Go.Proofs.YtdmaeipiikknnaaDoor.Dec Go.Proofs.YtdmaeipiikknnaaDoor.Blk Go.Proofs.YtdmaeipiikknnaaDoor.Nxt Go.Proofs.YtdmaeipiikknnaaDoor.Byte

/-- Rest behind k bytes more. -/
def pull (xs : List Int) (a : Nat) (rst : Int) : Nat → Int
  | 0 => rst
  | k + 1 => pull xs a rst k * 256 + xs.getD (a + k) 0
def up (r : Int) : Nat → Int
  | 0 => r
  | k + 1 => up r k * 256
/-- How often a range is lifted. -/
def shI (r : Int) : Nat := if 65536 ≤ r then 0 else if 256 ≤ r then 1 else 2
theorem shI_le (r : Int) : shI r ≤ 2 := by unfold shI; split <;> (try split) <;> omega
theorem up_bd (r : Int) (h1 : 64 ≤ r) (h2 : r ≤ 16777216) (j : Nat) (hj : j ≤ shI r) : 64 ≤ up r j ∧ up r j ≤ 16777216 ∧ (j < shI r → up r j < 65536) ∧ (j = shI r → 65536 ≤ up r j) := by
  have h := shI_le r
  obtain rfl | rfl | rfl : j = 0 ∨ j = 1 ∨ j = 2 := by omega
  · simp only [up]; unfold shI at *; split <;> (try split) <;> omega
  · simp only [up]; unfold shI at *; split <;> (try split) <;> simp_all <;> omega
  · simp only [up]; unfold shI at *; split <;> (try split) <;> simp_all <;> omega
theorem pull_bd (xs : List Int) (hx : BytesL xs) (a : Nat) (rst M : Int) (h1 : 0 ≤ rst) (h2 : rst < M) : ∀ k, 0 ≤ pull xs a rst k ∧ pull xs a rst k < up M k
  | 0 => ⟨h1, h2⟩
  | k + 1 => by
    have := pull_bd xs hx a rst M h1 h2 k
    have := CrcM.getD_bd hx (a + k)
    simp only [pull, up]; omega
/-- A slot that holds the next value holds Rest. -/
theorem slot_in (rst rng lo sz tot : Int) (h1 : 65536 ≤ rng) (h2 : rng ≤ 16777216) (h3 : 1 ≤ tot) (h4 : tot ≤ 1024) (h7 : lo + sz ≤ tot) (h9 : rst < rng)
    (hv1 : lo ≤ nV rst rng tot) (hv2 : nV rst rng tot < lo + sz) : 0 ≤ rst - rng / tot * lo ∧ rst - rng / tot * lo < narI rng lo sz tot := by
  obtain ⟨_, b1, _⟩ := unit_bd rng tot h1 h2 h3 h4
  have ed : narI rng lo sz tot = if lo + sz = tot then rng - rng / tot * lo else rng / tot * sz := rfl
  have ev : nV rst rng tot = min (rst / (rng / tot)) (tot - 1) := rfl
  rw [ev] at hv1 hv2
  rw [ed]
  clear ev ed
  generalize rng / tot = u at *
  have e1 : u * (rst / u) ≤ rst := Int.mul_ediv_self_le (by omega)
  have e2 : rst < u * (rst / u) + u := Int.lt_mul_ediv_self_add (by omega)
  generalize rst / u = q at *
  have hq : lo ≤ q := by omega
  have e3 : u * lo ≤ u * q := Int.mul_le_mul_of_nonneg_left hq (by omega)
  split
  · omega
  · have hq2 : q + 1 ≤ lo + sz := by omega
    have e4 : u * (q + 1) ≤ u * (lo + sz) := Int.mul_le_mul_of_nonneg_left hq2 (by omega)
    rw [Int.mul_add, Int.mul_add] at e4
    omega

/-- What lies in a block of its own stays, whatever turns in another block of another type. -/
theorem ow_apart {k : IntKind} {e base g : Nat} {t : TypeId} {w w' : World} {v : Value} {xs : List Int} {vs : Array Value} (h : Ow k e base w v xs) (hB : Blk w g vs t) (hne : t ≠ e) (hg : w.grownBy w' (some g)) : Ow k e base w' v xs := by
  have h' : w.ownsRow base e 1 v xs.length (xs.map (Value.int k)) := h
  refine h'.kept hg ?_
  rcases h'.2 with ⟨rfl, _⟩ | ⟨g', cap, cur, rfl, _, hgb, _⟩
  · exact .inl rfl
  · refine .inr fun e' => ?_
    obtain rfl : g' = g := by simpa [Value.ownBlock] using e'
    have := (show w.heap[g']? = _ from hB).symm.trans hgb
    simp at this
    exact hne this.2
theorem grown_drew1 {w w' : World} {r : Option Nat} (h : w.grownBy w' r) : w.grownBy w'.drew r := ⟨h.os, h.tape, h.output, h.size, h.block⟩
theorem grown_thenX {w w1 w2 : World} {r : Option Nat} (h : w.grownBy w1 r) (hb : Below w1.heap.size w1 w2) : w.grownBy w2 r :=
  ⟨hb.os.trans h.os, hb.tape.trans h.tape, hb.output.trans h.output, Nat.le_trans h.size hb.size, fun k hk hne => (hb.block k (Nat.lt_of_lt_of_le hk h.size)).trans (h.block k hk hne)⟩
theorem grown_thenD {w w1 w2 : World} {r : Option Nat} (h : w.grownBy w1 r) (hb : Below w1.drew.heap.size w1.drew w2) : w.grownBy w2 r := grown_thenX (grown_drew1 h) hb
theorem Blk.laterD {w w' : World} {b : Nat} {vs : Array Value} {t : TypeId} (h : Blk w b vs t) (hb : Below w.drew.heap.size w.drew w') : Blk w' b vs t := Blk.later (w := w.drew) h hb
def atOf (w : World) (g : Nat) : Int := match w.cell? ⟨g, 1, none⟩ with | some v => intOf v | none => 0
theorem atOf_eq {w : World} {g : Nat} {k : Int} (h : w.cell? ⟨g, 1, none⟩ = some (.int .i64 k)) : atOf w g = k := by unfold atOf; rw [h]; rfl

end Go.Proofs.YtdmaeipiikknnaaDoor.TakS
