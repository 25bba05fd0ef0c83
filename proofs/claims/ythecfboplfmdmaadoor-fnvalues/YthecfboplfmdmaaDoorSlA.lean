/- Lists of slots: appending to one that is the call's own; one that is written out. -/
import Derived.Test.YthecfboplfmdmaaDoorExL
import Derived.Maps.AppendAt
namespace Go.Proofs.YthecfboplfmdmaaDoor.SlA
open Go.ChangeShapes Go.WideShapes Go.ChangeAt Go.RowKit Go.Proofs.YthecfboplfmdmaaDoor.Num Go.Proofs.YthecfboplfmdmaaDoor.Sli Go.Proofs.YthecfboplfmdmaaDoor.App Go.Proofs.YthecfboplfmdmaaDoor.Byt Go.Proofs.YthecfboplfmdmaaDoor.Blk Go.Proofs.YthecfboplfmdmaaDoor.Dec Go.Proofs.YthecfboplfmdmaaDoor.RangeM Go.Proofs.YthecfboplfmdmaaDoor.SlS Go.Proofs.YthecfboplfmdmaaDoor.ExL

theorem OwS.kept {base : Nat} {w w' : World} {v : Value} {ls : List Sl3} {row : Option Nat} (h : OwS base w v ls) (hg : w.grownBy w' row) (hr : ∀ j, row = some j → j < base) : OwS base w' v ls := by
  have h' : w.ownsRow base 75 3 v ls.length (flat ls) := h
  refine h'.kept hg ?_
  cases hv : v.ownBlock with
  | none => exact Or.inl rfl
  | some j =>
    right
    intro e
    have := (h'.lt j hv).1
    have := hr j e.symm
    omega
theorem OwS.mono {base base' : Nat} {w : World} {v : Value} {ls : List Sl3} (h : OwS base w v ls) (hb : base' ≤ base) : OwS base' w v ls := by
  refine ⟨h.1, ?_⟩
  rcases h.2 with h0 | ⟨g, cap, cur, h1, h2, h3⟩
  · exact .inl h0
  · exact .inr ⟨g, cap, cur, h1, Nat.le_trans hb h2, h3⟩
theorem OwS.lt {base : Nat} {w : World} {v : Value} {ls : List Sl3} (h : OwS base w v ls) : ∀ j, v.ownBlock = some j → base ≤ j ∧ j < w.heap.size := by
  have h' : w.ownsRow base 75 3 v ls.length (flat ls) := h
  exact h'.lt
theorem owS_nil (base : Nat) (w : World) : OwS base w (.slice none 0 0) [] := ⟨rfl, .inl ⟨rfl, rfl⟩⟩
theorem owS_lit (base : Nat) (w : World) (a b c : Int) (hb : base ≤ w.heap.size) : OwS base (w.alloc (.cells #[.int .i64 a, .int .i64 b, .int .i64 c] 75)) (.slice (some ⟨w.heap.size, 0, none⟩) 1 1) [(a, b, c)] :=
  ⟨rfl, .inr ⟨w.heap.size, 1, _, rfl, hb, World.alloc_heap_new w _, Nat.le_refl _, of_decide_eq_true rfl, rfl, rfl⟩⟩
theorem flat_one (ls : List Sl3) : ∀ u ∈ flat ls, u.oneCell' = true := by
  induction ls with
  | nil => intro u hu; cases hu
  | cons s t ih =>
    intro u hu
    simp only [flat, List.mem_cons] at hu
    rcases hu with rfl | rfl | rfl | hu
    · rfl
    · rfl
    · rfl
    · exact ih u hu
theorem sls_flat {w : World} {b off : Nat} {ms : List Sl3} (h : ∀ i, i < ms.length → w.cell? ⟨b, off + i * 3, none⟩ = some (.int .i64 (ms.getD i (0, 0, 0)).1) ∧ w.cell? ⟨b, off + i * 3 + 1, none⟩ = some (.int .i64 (ms.getD i (0, 0, 0)).2.1) ∧ w.cell? ⟨b, off + i * 3 + 2, none⟩ = some (.int .i64 (ms.getD i (0, 0, 0)).2.2)) :
    ∀ j u, (flat ms)[j]? = some u → w.cell? ((⟨b, off, none⟩ : Addr).add j) = some u := by
  intro j u hj
  rw [Addr.add_lit]
  have hl : j < (flat ms).length := by
    rcases Nat.lt_or_ge j (flat ms).length with h1 | h1
    · exact h1
    · rw [List.getElem?_eq_none h1] at hj; cases hj
  rw [flat_len] at hl
  have hi : j / 3 < ms.length := by omega
  obtain ⟨c1, c2, c3⟩ := h (j / 3) hi
  obtain ⟨f1, f2, f3⟩ := flat_get ms (j / 3) hi
  have hr : j % 3 = 0 ∨ j % 3 = 1 ∨ j % 3 = 2 := by omega
  rcases hr with hr | hr | hr
  · have e : j = j / 3 * 3 := by omega
    rw [← e] at f1 c1
    rw [hj] at f1; rw [c1, ← f1]
  · have e : j = j / 3 * 3 + 1 := by omega
    rw [Nat.add_assoc, ← e] at c2
    rw [← e, hj] at f2; rw [c2, ← f2]
  · have e : j = j / 3 * 3 + 2 := by omega
    rw [Nat.add_assoc, ← e] at c3
    rw [← e, hj] at f3; rw [c3, ← f3]
/-- Slots are appended. -/
theorem wpList_append_slots (w : World) {ops : Array Oper} {rest : List Oper} {o : Oper} {a : Act} {Q : Exit → Act → World → Prop} (hgd : o.guard = none) (s x : Operand)
    (ho : o.op = .call { callee := .builtin .append, args := #[s, x], argTypes := #[52, 52] })
    (base : Nat) (v : Value) (ls : List Sl3) (hs : a.eval s = v) (hown : OwS base w v ls)
    (vx : Value) (ms : List Sl3) (hx : a.eval x = vx) (hsl : SlS w vx ms) (hne : ms ≠ []) (hlen : ls.length + ms.length ≤ 1000000) (hbase : base ≤ w.heap.size)
    (h : ∀ g cap n w', n = (ls ++ ms).length → OwS base w' (.slice (some ⟨g, 0, none⟩) n cap) (ls ++ ms) → w.grownBy w' v.ownBlock → wpList Tryd.prog ops Q rest (a.put o.dst (.slice (some ⟨g, 0, none⟩) n cap)) w') : wpList Tryd.prog ops Q (o :: rest) a w := by
  obtain ⟨i0, hi, hz0, hz1, hz2⟩ := info_parts infoS
  obtain ⟨ax, cx, rfl, hc⟩ := hsl
  obtain ⟨b, off, rfl, hlt, hcell⟩ := hc hne
  have hpos : 0 < ms.length := by cases ms with | nil => exact absurd rfl hne | cons _ _ => simp
  refine wpList_append_lies w hgd s x 52 ho base 75 i0 (.agg #[.int .i64 0, .int .i64 0, .int .i64 0]) 3 24 Tryd.underlying52 hi hz0 hz1 hz2 rfl (by decide) v ls.length (flat ls) hs hown ⟨b, off, none⟩ ms.length cx (flat ms) hx (flat_len ms) (sls_flat hcell) (flat_one ms) hpos (by rw [show maxLen = 9223372036854775807 by decide]; omega) (by omega) hbase w.heap.size rfl ?_
  intro g cap w' h1 h2 _ _
  have e : ls.length + ms.length = (ls ++ ms).length := by rw [List.length_append]
  refine h g cap _ w' e ?_ h2
  show World.ownsRow _ _ _ _ _ (ls ++ ms).length (flat (ls ++ ms))
  rw [flat_append, ← e]
  exact h1
end Go.Proofs.YthecfboplfmdmaaDoor.SlA
