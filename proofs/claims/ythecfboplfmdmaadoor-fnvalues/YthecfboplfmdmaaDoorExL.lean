/- The laws' own helpers over lists of slots. -/
import Derived.Test.YthecfboplfmdmaaDoorSlS
import Derived.Test.YthecfboplfmdmaaDoorByt
import Derived.Test.YthecfboplfmdmaaDoorBlk
namespace Go.Proofs.YthecfboplfmdmaaDoor.ExL
open Go.ChangeShapes Go.WideShapes Go.ChangeAt Go.RowKit Go.Proofs.YthecfboplfmdmaaDoor.Num Go.Proofs.YthecfboplfmdmaaDoor.Sli Go.Proofs.YthecfboplfmdmaaDoor.App Go.Proofs.YthecfboplfmdmaaDoor.Byt Go.Proofs.YthecfboplfmdmaaDoor.Blk Go.Proofs.YthecfboplfmdmaaDoor.Dec Go.Proofs.YthecfboplfmdmaaDoor.RangeM Go.Proofs.YthecfboplfmdmaaDoor.SlS

theorem infoS : (Tryd.prog.info? 75).map (fun i => (i.zero, i.size, i.bytes)) = some (some (.agg #[.int .i64 0, .int .i64 0, .int .i64 0]), 3, 24) := by kernel_rfl
theorem flat_set (ls : List Sl3) (i : Nat) (a b c : Int) (hi : i < ls.length) : (((flat ls).set (i * 3) (.int .i64 a)).set (i * 3 + 1) (.int .i64 b)).set (i * 3 + 2) (.int .i64 c) = flat (ls.set i (a, b, c)) := by
  induction ls generalizing i with
  | nil => simp at hi
  | cons s t ih =>
    cases i with
    | zero => simp [flat]
    | succ i =>
      rw [show (i + 1) * 3 = i * 3 + 1 + 1 + 1 by omega]
      simp only [flat, List.set_cons_succ, ← ih i (by simpa using hi)]
theorem flat_zero (n : Nat) : flat (List.replicate n (0, 0, 0)) = List.replicate (n * 3) (Value.int .i64 0) := by
  induction n with
  | zero => rfl
  | succ n ih => rw [List.replicate_succ, show (n + 1) * 3 = n * 3 + 1 + 1 + 1 by omega]; simp only [flat, ih, List.replicate_succ]
theorem made_slots (n : Nat) : (madeCells #[Value.int .i64 0, .int .i64 0, .int .i64 0] (n * 3)).toList = flat (List.replicate n (0, 0, 0)) := by
  rw [flat_zero]
  apply List.ext_getElem
  · simp [size_madeCells]
  · intro i h1 h2
    simp only [madeCells, Array.toList_map, List.getElem_map, List.getElem_replicate]
    have : ∀ j : Nat, (#[Value.int .i64 0, .int .i64 0, .int .i64 0] : Array Value)[j % 3]! = .int .i64 0 := by
      intro j
      have h3 : j % 3 = 0 ∨ j % 3 = 1 ∨ j % 3 = 2 := by omega
      rcases h3 with h | h | h <;> rw [h] <;> rfl
    exact this _
theorem OwS.set3 {base g n cap : Nat} {w : World} {ls : List Sl3} (h : OwS base w (.slice (some ⟨g, 0, none⟩) n cap) ls) (hn : n = ls.length) (i : Nat) (hi : i < n) (a b c : Int) :
    OwS base (((w.setCell ⟨g, i * 3, none⟩ (.int .i64 a)).setCell ⟨g, i * 3 + 1, none⟩ (.int .i64 b)).setCell ⟨g, i * 3 + 2, none⟩ (.int .i64 c)) (.slice (some ⟨g, 0, none⟩) n cap) (ls.set i (a, b, c)) ∧
    w.grownBy (((w.setCell ⟨g, i * 3, none⟩ (.int .i64 a)).setCell ⟨g, i * 3 + 1, none⟩ (.int .i64 b)).setCell ⟨g, i * 3 + 2, none⟩ (.int .i64 c)) (some g) := by
  subst hn
  obtain ⟨h1, g1⟩ := World.ownsRow.stored h (i * 3) (.int .i64 a)
  obtain ⟨h2, g2⟩ := h1.stored (i * 3 + 1) (.int .i64 b)
  obtain ⟨h3, g3⟩ := h2.stored (i * 3 + 2) (.int .i64 c)
  rw [flat_set ls i a b c hi] at h3
  refine ⟨?_, grown_same (grown_same g1 g2) g3⟩
  show World.ownsRow _ base 75 3 _ (ls.set i (a, b, c)).length (flat (ls.set i (a, b, c)))
  rw [List.length_set]
  exact h3
theorem OwS.cells {base g n cap : Nat} {w : World} {ls : List Sl3} (h : OwS base w (.slice (some ⟨g, 0, none⟩) n cap) ls) (hn : n = ls.length) (i : Nat) (hi : i < n) :
    (w.cell? ⟨g, i * 3, none⟩ = some (.int .i64 (ls.getD i (0, 0, 0)).1) ∧ w.cell? ⟨g, i * 3 + 1, none⟩ = some (.int .i64 (ls.getD i (0, 0, 0)).2.1) ∧ w.cell? ⟨g, i * 3 + 2, none⟩ = some (.int .i64 (ls.getD i (0, 0, 0)).2.2)) ∧ (w.frozen? ⟨g, i * 3, none⟩ = false ∧ w.frozen? ⟨g, i * 3 + 1, none⟩ = false ∧ w.frozen? ⟨g, i * 3 + 2, none⟩ = false) := by
  subst hn
  obtain ⟨a, cap', hv, hc⟩ := h.sls
  cases hv
  obtain ⟨b, off, he, hlt, hcell⟩ := hc (by intro e; rw [e] at hi; simp at hi)
  cases he
  have := hcell i hi
  rw [Nat.zero_add] at this
  exact ⟨this, World.ownsRow.frozenAt h _, World.ownsRow.frozenAt h _, World.ownsRow.frozenAt h _⟩
theorem OwS.later {base : Nat} {w w' : World} {v : Value} {ls : List Sl3} (h : OwS base w v ls) (hb : Below w.heap.size w w') : OwS base w' v ls :=
  World.ownsRow.kept (row := none) h ⟨hb.os, hb.tape, hb.output, hb.size, fun j hj _ => hb.block j hj⟩ (by cases v.ownBlock <;> simp)
theorem OwS.block {base g n cap : Nat} {w : World} {ls : List Sl3} (h : OwS base w (.slice (some ⟨g, 0, none⟩) n cap) ls) : base ≤ g ∧ g < w.heap.size := by
  rcases h.2 with ⟨h0, _⟩ | ⟨g', c', cur, h0, hb, hg, _⟩
  · cases h0
  · cases h0; exact ⟨hb, (Array.getElem?_eq_some_iff.1 hg).1⟩
/-- What the copy holds behind k rounds. -/
def half3 (xs : List Sl3) (k : Nat) : List Sl3 := xs.take k ++ List.replicate (xs.length - k) (0, 0, 0)
theorem half3_len (xs : List Sl3) (k : Nat) (h : k ≤ xs.length) : (half3 xs k).length = xs.length := by
  unfold half3; simp; omega
theorem half3_set (xs : List Sl3) (k : Nat) (h : k < xs.length) : (half3 xs k).set k (xs.getD k (0, 0, 0)) = half3 xs (k + 1) := by
  unfold half3
  apply List.ext_getElem
  · simp; omega
  · intro i h1 h2
    simp only [List.getElem_set, List.getElem_append, List.length_take, List.getElem_take, List.getElem_replicate]
    by_cases e : k = i
    · subst e; simp [h, show k < min (k + 1) xs.length by omega]
    · simp only [e, if_false]
      by_cases hi : i < k
      · simp [show i < min k xs.length by omega, show i < min (k + 1) xs.length by omega]
      · simp [show ¬ i < min k xs.length by omega, show ¬ i < min (k + 1) xs.length by omega]
end Go.Proofs.YthecfboplfmdmaaDoor.ExL
