/- Blocks that hold a struct: what lies in them, behind what keeps or turns them. -/
import Derived.Test.YtodfkicmmcfkaaaApp
import Derived.RangeFuncNested
namespace Go.Proofs.Ytodfkicmmcfkaaa.Blk
open Go.ChangeShapes Go.WideShapes Go.ChangeAt Go.RowKit Go.Proofs.Ytodfkicmmcfkaaa.Num Go.Proofs.Ytodfkicmmcfkaaa.Sli Go.Proofs.Ytodfkicmmcfkaaa.App

/-- Block b holds just these cells. -/
def Blk (w : World) (b : Nat) (vs : Array Value) (t : TypeId) : Prop := w.heap[b]? = some (.cells vs t (0, 0))
theorem Blk.lt {w : World} {b : Nat} {vs : Array Value} {t : TypeId} (h : Blk w b vs t) : b < w.heap.size := (Array.getElem?_eq_some_iff.1 h).1
theorem Blk.cell {w : World} {b : Nat} {vs : Array Value} {t : TypeId} (h : Blk w b vs t) (i : Nat) : w.cell? ⟨b, i, none⟩ = vs[i]? := by simp [World.cell?, show w.heap[b]? = _ from h]
theorem Blk.frozen {w : World} {b : Nat} {vs : Array Value} {t : TypeId} (h : Blk w b vs t) (i : Nat) : w.frozen? ⟨b, i, none⟩ = false := by simp [World.frozen?, show w.heap[b]? = _ from h]
theorem Blk.new (w : World) (vs : Array Value) (t : TypeId) : Blk (w.alloc (.cells vs t)) w.heap.size vs t := World.alloc_heap_new w _
theorem Blk.below {w w' : World} {b n : Nat} {vs : Array Value} {t : TypeId} (h : Blk w b vs t) (hb : Below n w w') (hn : b < n) : Blk w' b vs t := (hb.block b hn).trans h
theorem Blk.later {w w' : World} {b : Nat} {vs : Array Value} {t : TypeId} (h : Blk w b vs t) (hb : Below w.heap.size w w') : Blk w' b vs t := h.below hb h.lt
theorem Blk.kept {w w' : World} {row : Option Nat} {b : Nat} {vs : Array Value} {t : TypeId} (h : Blk w b vs t) (hg : w.grownBy w' row) (hne : row ≠ some b) : Blk w' b vs t := (hg.block b h.lt (fun e => hne e.symm)).trans h
theorem Blk.alloc {w : World} {b : Nat} {vs : Array Value} {t : TypeId} (h : Blk w b vs t) (o : Obj) : Blk (w.alloc o) b vs t := h.later (bmore (Below.refl _ _) o)
theorem Blk.drew {w : World} {b : Nat} {vs : Array Value} {t : TypeId} (h : Blk w b vs t) (n : Nat) : Blk (w.drewN n) b vs t := h
theorem Blk.put {w : World} {b : Nat} {vs : Array Value} {t : TypeId} (h : Blk w b vs t) {l : Nat} {o : Obj} (hl : w.heap[l]? = some o) (ho : o.isCells = false) (o' : Obj) : Blk (w.putObj l o') b vs t := by
  refine (World.putObj_heap_other ?_).trans h
  rintro rfl
  rw [show w.heap[b]? = _ from h] at hl
  cases hl; cases ho
theorem Blk.set {w : World} {b : Nat} {vs : Array Value} {t : TypeId} (h : Blk w b vs t) (i : Nat) (v : Value) : Blk (w.setCell ⟨b, i, none⟩ v) b (vs.setIfInBounds i v) t := by
  obtain ⟨hlt, hk⟩ := Array.getElem?_eq_some_iff.1 h
  show (w.heap.modify b _)[b]? = _
  rw [Array.getElem?_eq_getElem (by rw [Array.size_modify]; exact hlt), Array.getElem_modify_self, hk]
  rfl
theorem Blk.other {w : World} {b : Nat} {vs : Array Value} {t : TypeId} (h : Blk w b vs t) {b' : Nat} (hne : b' ≠ b) (i : Nat) (v : Value) : Blk (w.setCell ⟨b', i, none⟩ v) b vs t :=
  (Below.heap_setCell w ⟨b', i, none⟩ v b (fun e => hne e.symm)).trans h
theorem Blk.two {w : World} {b : Nat} {v0 v1 : Value} {t : TypeId} (h : Blk w b #[v0, v1] t) :
    w.cell? ⟨b, 0, none⟩ = some v0 ∧ w.cell? ⟨b, 1, none⟩ = some v1 ∧ w.frozen? ⟨b, 0, none⟩ = false ∧ w.frozen? ⟨b, 1, none⟩ = false :=
  ⟨h.cell 0, h.cell 1, h.frozen 0, h.frozen 1⟩
theorem Blk.three {w : World} {b : Nat} {v0 v1 v2 : Value} {t : TypeId} (h : Blk w b #[v0, v1, v2] t) :
    w.cell? ⟨b, 0, none⟩ = some v0 ∧ w.cell? ⟨b, 1, none⟩ = some v1 ∧ w.cell? ⟨b, 2, none⟩ = some v2 ∧ w.frozen? ⟨b, 0, none⟩ = false ∧ w.frozen? ⟨b, 1, none⟩ = false ∧ w.frozen? ⟨b, 2, none⟩ = false :=
  ⟨h.cell 0, h.cell 1, h.cell 2, h.frozen 0, h.frozen 1, h.frozen 2⟩
theorem Blk.four {w : World} {b : Nat} {v0 v1 v2 v3 : Value} {t : TypeId} (h : Blk w b #[v0, v1, v2, v3] t) :
    w.cell? ⟨b, 0, none⟩ = some v0 ∧ w.cell? ⟨b, 1, none⟩ = some v1 ∧ w.cell? ⟨b, 2, none⟩ = some v2 ∧ w.cell? ⟨b, 3, none⟩ = some v3 ∧ w.frozen? ⟨b, 0, none⟩ = false ∧ w.frozen? ⟨b, 1, none⟩ = false ∧ w.frozen? ⟨b, 2, none⟩ = false ∧ w.frozen? ⟨b, 3, none⟩ = false :=
  ⟨h.cell 0, h.cell 1, h.cell 2, h.cell 3, h.frozen 0, h.frozen 1, h.frozen 2, h.frozen 3⟩
theorem Blk.five {w : World} {b : Nat} {v0 v1 v2 v3 v4 : Value} {t : TypeId} (h : Blk w b #[v0, v1, v2, v3, v4] t) :
    w.cell? ⟨b, 0, none⟩ = some v0 ∧ w.cell? ⟨b, 1, none⟩ = some v1 ∧ w.cell? ⟨b, 2, none⟩ = some v2 ∧ w.cell? ⟨b, 3, none⟩ = some v3 ∧ w.cell? ⟨b, 4, none⟩ = some v4 ∧ w.frozen? ⟨b, 0, none⟩ = false ∧ w.frozen? ⟨b, 1, none⟩ = false ∧ w.frozen? ⟨b, 2, none⟩ = false ∧ w.frozen? ⟨b, 3, none⟩ = false ∧ w.frozen? ⟨b, 4, none⟩ = false :=
  ⟨h.cell 0, h.cell 1, h.cell 2, h.cell 3, h.cell 4, h.frozen 0, h.frozen 1, h.frozen 2, h.frozen 3, h.frozen 4⟩
/-- Two boxes at a function's beginning, behind a call. -/
theorem boxes2 {w w' : World} {A B : Array Value} {t u : TypeId} (hb : Below ((w.alloc (.cells A t)).alloc (.cells B u)).heap.size ((w.alloc (.cells A t)).alloc (.cells B u)) w') :
    Blk w' w.heap.size A t ∧ Blk w' (w.heap.size + 1) B u ∧ Below w.heap.size w w' ∧ w.heap.size + 2 ≤ w'.heap.size := by
  refine ⟨((Blk.new w A t).alloc _).later hb, ?_, bthen (bmore (bmore (Below.refl _ w) _) _) hb, ?_⟩
  · have := (Blk.new (w.alloc (.cells A t)) B u).later hb
    rwa [World.size_alloc] at this
  · have := hb.size; simpa using this
theorem boxes3 {w w' : World} {A B C : Array Value} {t u s : TypeId} (hb : Below (((w.alloc (.cells A t)).alloc (.cells B u)).alloc (.cells C s)).heap.size (((w.alloc (.cells A t)).alloc (.cells B u)).alloc (.cells C s)) w') :
    Blk w' w.heap.size A t ∧ Blk w' (w.heap.size + 1) B u ∧ Blk w' (w.heap.size + 1 + 1) C s ∧ Below w.heap.size w w' ∧ w.heap.size + 3 ≤ w'.heap.size := by
  refine ⟨(((Blk.new w A t).alloc _).alloc _).later hb, ?_, ?_, bthen (bmore (bmore (bmore (Below.refl _ w) _) _) _) hb, ?_⟩
  · have := ((Blk.new (w.alloc (.cells A t)) B u).alloc (.cells C s)).later hb
    rwa [World.size_alloc] at this
  · have := (Blk.new ((w.alloc (.cells A t)).alloc (.cells B u)) C s).later hb
    rwa [World.size_alloc, World.size_alloc] at this
  · have := hb.size; simpa using this
theorem below_cell {n : Nat} {a w : World} (h : Below n a w) {b : Nat} (hb : n ≤ b) (i : Nat) (v : Value) : Below n a (w.setCell ⟨b, i, none⟩ v) := h.setCell (p := ⟨b, i, none⟩) hb v
end Go.Proofs.Ytodfkicmmcfkaaa.Blk
