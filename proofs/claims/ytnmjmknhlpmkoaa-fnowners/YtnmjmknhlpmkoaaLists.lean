/- Lists that are drawn: each is new memory of the call's own, and holds numbers within its bounds. Conditions: a right source, not too many numbers. -/
import Derived.Test.YtnmjmknhlpmkoaaSrc
import Derived.Deep.AppendLies
namespace Go.Proofs.Ytnmjmknhlpmkoaa.Lists
open Go.ChangeShapes Go.WideShapes Go.ChangeAt Go.RowKit Go.Proofs.Ytnmjmknhlpmkoaa.Num Go.Proofs.Ytnmjmknhlpmkoaa.Sli Go.Proofs.Ytnmjmknhlpmkoaa.Src

theorem infoI : (Try.prog.info? 2).map (fun i => (i.zero, i.size, i.bytes)) = some (some (.int .i64 0), 1, 8) := by kernel_rfl

/-- The slice at the head of block g is the call's own, from block base on, and holds ys. -/
def Own (base : Nat) (w : World) (g cap : Nat) (ys : List Int) : Prop :=
  w.ownsRow base 2 1 (.slice (some ⟨g, 0, none⟩) ys.length cap) ys.length (ys.map (Value.int .i64))

theorem Own.le {base : Nat} {w : World} {g cap : Nat} {ys : List Int} (h : Own base w g cap ys) : base ≤ g ∧ g < w.heap.size := by
  rcases h.2 with ⟨hv, _⟩ | ⟨g', cap', cur, hv, hg, hh, _⟩
  · cases hv
  · simp at hv
    obtain ⟨rfl, _⟩ := hv
    refine ⟨hg, ?_⟩
    rcases Nat.lt_or_ge g w.heap.size with hl | hl
    · exact hl
    · rw [show w.heap[g]? = none by simp; omega] at hh; cases hh
theorem Own.kept {base : Nat} {w w' : World} {g cap : Nat} {ys : List Int} {row : Option Nat} (h : Own base w g cap ys) (hg : w.grownBy w' row) (hr : row ≠ some g) : Own base w' g cap ys := by
  have h' : w.ownsRow base 2 1 (.slice (some ⟨g, 0, none⟩) ys.length cap) ys.length (ys.map (Value.int .i64)) := h
  exact h'.kept hg (Or.inr (by show some g ≠ row; exact fun e => hr e.symm))
theorem Own.sl {base : Nat} {w : World} {g cap : Nat} {ys : List Int} (h : Own base w g cap ys) : Sl .i64 w (.slice (some ⟨g, 0, none⟩) ys.length cap) ys := (sl_of_own h).1

theorem grown_refl (w : World) (r : Option Nat) : w.grownBy w r := ⟨rfl, rfl, rfl, Nat.le_refl _, fun _ _ _ => rfl⟩
theorem grown_then {w a b : World} {g : Nat} {row : Option Nat} (h : w.grownBy a (some g)) (k : a.grownBy b row) (hr : ∀ j, row = some j → j = g ∨ w.heap.size ≤ j) : w.grownBy b (some g) :=
  ⟨k.os.trans h.os, k.tape.trans h.tape, k.output.trans h.output, Nat.le_trans h.size k.size, fun j hj hne => by
    rw [k.block j (Nat.lt_of_lt_of_le hj h.size) (fun e => by rcases hr j e.symm with h1 | h1; exact hne (by rw [h1]); omega)]
    exact h.block j hj hne⟩
theorem grown_alloc (w : World) (o : Obj) (r : Option Nat) : w.grownBy (w.alloc o) r := ⟨rfl, rfl, rfl, by simp, fun k hk _ => Below.heap_alloc w o k hk⟩
theorem src_grown {w0 w w' : World} {g : Nat} {a : Option Addr} {cap : Nat} {bs : List Int} {at' : Nat} {row : Option Nat} (h : Src w0 w g a cap bs at') (k : w.grownBy w' row) (hr : ∀ j, row = some j → j ≠ g ∧ w0.heap.size ≤ j) : Src w0 w' g a cap bs at' := by
  have hlt := src_lt h
  obtain ⟨h1, h2, h3, h4, h5, h6⟩ := h
  refine ⟨h1, h2.grown k h2.size (fun j e => (hr j e).2), h3, h4, h5, ?_⟩
  rw [k.block g hlt (fun e => (hr g e.symm).1 rfl)]
  exact h6

theorem own_new (w : World) : Own w.heap.size (w.alloc (.cells #[] 2)) w.heap.size 0 [] :=
  ⟨rfl, Or.inr ⟨w.heap.size, 0, #[], rfl, Nat.le_refl _, heap_alloc_new w _, Nat.le_refl _, by unfold maxLen; omega, rfl, rfl⟩⟩
theorem own_snoc {base : Nat} {w : World} {g cap : Nat} {ys : List Int} {r : Int} (h : w.ownsRow base 2 1 (.slice (some ⟨g, 0, none⟩) (ys.length + 1) cap) (ys.length + 1) (ys.map (Value.int .i64) ++ [.int .i64 r])) : Own base w g cap (ys ++ [r]) := by
  unfold Own
  rw [List.length_append, List.map_append]
  exact h
/-- What one round of a drawn list does, behind its append. -/
theorem list_step {w0 w w1 w2 : World} {g gl cl : Nat} {a : Option Addr} {cap : Nat} {bs : List Int} {at2 : Nat} {ys : List Int} {o : Obj}
    (hs : Src w0 w1 g a cap bs at2) (hg : w.grownBy w1 (some g)) (hgw : g < w.heap.size) (hw0 : w0.heap.size ≤ w.heap.size) (hown : Own w.heap.size w1 gl cl ys)
    (hgrow : (w1.alloc o).grownBy w2 (some gl)) :
    Src w0 w2 g a cap bs at2 ∧ w.grownBy w2 (some g) := by
  have hl := hown.le
  refine ⟨src_grown (src_alloc hs o) hgrow (fun j e => ?_), grown_then (grown_then hg (grown_alloc w1 o none) (fun j e => by cases e)) hgrow (fun j e => ?_)⟩
  · cases e; exact ⟨by omega, by omega⟩
  · cases e; exact Or.inr hl.1

end Go.Proofs.Ytnmjmknhlpmkoaa.Lists
