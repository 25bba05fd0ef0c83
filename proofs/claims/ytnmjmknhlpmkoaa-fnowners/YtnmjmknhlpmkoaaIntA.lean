/- Lists of numbers: append, copies, noughts, bounds; what is kept of one list while another one turns. Condition: at most 1048576 numbers. -/
import Derived.Test.YtnmjmknhlpmkoaaIntL
import Derived.Test.YtnmjmknhlpmkoaaDiv
namespace Go.Proofs.Ytnmjmknhlpmkoaa.IntA
open Go.ChangeShapes Go.WideShapes Go.ChangeAt Go.RowKit Go.Proofs.Ytnmjmknhlpmkoaa.Num Go.Proofs.Ytnmjmknhlpmkoaa.Sli Go.Proofs.Ytnmjmknhlpmkoaa.App Go.Proofs.Ytnmjmknhlpmkoaa.Div Go.Proofs.Ytnmjmknhlpmkoaa.IntL

/-- Numbers are appended. -/
theorem wpList_append_ints (w : World) {ops : Array Oper} {rest : List Oper} {o : Oper} {a : Act} {Q : Exit → Act → World → Prop} (hgd : o.guard = none) (s x : Operand)
    (ho : o.op = .call { callee := .builtin .append, args := #[s, x], argTypes := #[44, 44] })
    (base : Nat) (v : Value) (ys : List Int) (hs : a.eval s = v) (hown : OwI base w v ys)
    (vx : Value) (xs : List Int) (hx : a.eval x = vx) (hsl : Sl .i64 w vx xs) (hne : xs ≠ []) (hlen : ys.length + xs.length ≤ 1000000) (hbase : base ≤ w.heap.size)
    (h : ∀ g cap n w', n = (ys ++ xs).length → OwI base w' (.slice (some ⟨g, 0, none⟩) n cap) (ys ++ xs) → w.grownBy w' v.ownBlock → (v.ownBlock = some g ∨ g = w.heap.size) → wpList Try.prog ops Q rest (a.put o.dst (.slice (some ⟨g, 0, none⟩) n cap)) w') : wpList Try.prog ops Q (o :: rest) a w := by
  obtain ⟨i0, hi, hz0, hz1, hz2⟩ := info_parts infoI
  obtain ⟨ax, cx, rfl, hc⟩ := hsl
  obtain ⟨b, off, rfl, hlt, hcell⟩ := hc hne
  have hpos : 0 < xs.length := by cases xs with | nil => exact absurd rfl hne | cons _ _ => simp
  have hown' : w.ownsRow base 2 1 v ys.length (ys.map (Value.int .i64)) := hown
  refine wpList_append_lies w hgd s x 44 ho base 2 i0 (.int .i64 0) 1 8 Try.underlying44 hi hz0 hz1 hz2 rfl (by decide) v ys.length _ hs hown' ⟨b, off, none⟩ xs.length cx (xs.map (Value.int .i64)) hx (by simp) ?_ ?_ hpos (by rw [show maxLen = 9223372036854775807 by decide]; omega) (by omega) hbase w.heap.size rfl ?_
  · intro j u hj
    rw [List.getElem?_map] at hj
    rcases hxj : xs[j]? with _ | y
    · rw [hxj] at hj; cases hj
    · rw [hxj] at hj; simp at hj; subst hj
      have hjl : j < xs.length := by rcases Nat.lt_or_ge j xs.length with h1 | h1; exact h1; rw [List.getElem?_eq_none h1] at hxj; cases hxj
      have hc1 := hcell j hjl
      rw [List.getD_eq_getElem?_getD, hxj, Option.getD_some] at hc1
      rw [Addr.add_lit]; exact hc1
  · intro u hu
    simp at hu
    obtain ⟨y, _, rfl⟩ := hu
    rfl
  · intro g cap w' h1 h2 h3 _
    have e : ys.length + xs.length = (ys ++ xs).length := by rw [List.length_append]
    refine h g cap _ w' e ?_ h2 h3
    show World.ownsRow _ _ _ _ _ (ys ++ xs).length ((ys ++ xs).map (Value.int .i64))
    rw [List.map_append, ← e]
    exact h1
/-- A list stays while another block turns. -/
theorem Ow.keptNe {k : IntKind} {t base : Nat} {w w' : World} {v : Value} {ys : List Int} {row : Option Nat} (h : Ow k t base w v ys) (hg : w.grownBy w' row) (hr : ∀ j, row = some j → v.ownBlock ≠ some j) : Ow k t base w' v ys := by
  have h' : w.ownsRow base t 1 v ys.length (ys.map (Value.int k)) := h
  refine h'.kept hg ?_
  cases hv : v.ownBlock with
  | none => exact Or.inl rfl
  | some j =>
    right
    intro e
    exact hr j e.symm hv
end Go.Proofs.Ytnmjmknhlpmkoaa.IntA
