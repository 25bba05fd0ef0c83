/- What an exact law over answers with a list of numbers keeps on its way: the model's answer, the program's answer, what each of them holds, and that nothing that was there before turned. -/
import Derived.Test.YtodfkicmmcfkaaaIntL
namespace Go.Proofs.Ytodfkicmmcfkaaa.ExJ
open Go.ChangeShapes Go.WideShapes Go.ChangeAt Go.RowKit Go.Proofs.Ytodfkicmmcfkaaa.Num Go.Proofs.Ytodfkicmmcfkaaa.Sli Go.Proofs.Ytodfkicmmcfkaaa.App Go.Proofs.Ytodfkicmmcfkaaa.IntL

/-- The model's answer lies in block A, and its list W below A; the program's answer lies in block q, and its list G between Bx and q. -/
structure KI (w : World) (A Bx q : Nat) (c : Int) (W G : Value) (zs ys : List Int) (v : World) : Prop where
  p0 : v.cell? ⟨A, 0, none⟩ = some (.int .i64 c)
  p1 : v.cell? ⟨A, 1, none⟩ = some W
  q0 : v.cell? ⟨q, 0, none⟩ = some (.int .i64 c)
  q1 : v.cell? ⟨q, 1, none⟩ = some G
  sW : Sb .i64 A v W zs
  oG : OwI Bx v G ys
  gq : ∀ j, G.ownBlock = some j → j < q
  l1 : A < Bx
  l2 : Bx ≤ q
  l3 : q < v.heap.size
  l0 : w.heap.size ≤ A
  bel : Below w.heap.size w v

theorem KI.later {w : World} {A Bx q : Nat} {c : Int} {W G : Value} {zs ys : List Int} {v v' : World} (h : KI w A Bx q c W G zs ys v) (hb : Below v.heap.size v v') : KI w A Bx q c W G zs ys v' := by
  have l1 := h.l1; have l2 := h.l2; have l3 := h.l3; have hs := hb.size
  refine ⟨?_, ?_, ?_, ?_, h.sW.keep (hb.mono (by omega)), h.oG.later hb, h.gq, l1, l2, by omega, h.l0, bthen h.bel hb⟩
  · rw [hb.cell (p := ⟨A, 0, none⟩) (by show A < _; omega)]; exact h.p0
  · rw [hb.cell (p := ⟨A, 1, none⟩) (by show A < _; omega)]; exact h.p1
  · rw [hb.cell (p := ⟨q, 0, none⟩) l3]; exact h.q0
  · rw [hb.cell (p := ⟨q, 1, none⟩) l3]; exact h.q1
theorem KI.mark {w : World} {A Bx q : Nat} {c : Int} {W G : Value} {zs ys : List Int} {v v' : World} {row : Option Nat} (h : KI w A Bx q c W G zs ys v) (hg : v.grownBy v' row) (hr : ∀ j, row = some j → A < j ∧ j < Bx) : KI w A Bx q c W G zs ys v' := by
  have l1 := h.l1; have l2 := h.l2; have l3 := h.l3; have l0 := h.l0; have hs := hg.size
  have hA : Below (A + 1) v v' := below_of_grown hg (by omega) (fun j e => (hr j e).1)
  have hq : ∀ o, v'.cell? ⟨q, o, none⟩ = v.cell? ⟨q, o, none⟩ := fun o => hg.cell_far ⟨q, o, none⟩ l3 (fun e => by have := (hr q e.symm).2; omega)
  refine ⟨?_, ?_, ?_, ?_, h.sW.keep (hA.mono (by omega)), h.oG.kept hg (fun j e => (hr j e).2), h.gq, l1, l2, by omega, h.l0, h.bel.trans (below_of_grown hg (by omega) (fun j e => by have := (hr j e).1; omega))⟩
  · rw [hA.cell (p := ⟨A, 0, none⟩) (by simp)]; exact h.p0
  · rw [hA.cell (p := ⟨A, 1, none⟩) (by simp)]; exact h.p1
  · rw [hq]; exact h.q0
  · rw [hq]; exact h.q1
theorem KI.markG {w : World} {A Bx q : Nat} {c : Int} {W G : Value} {zs ys ys' : List Int} {v v' : World} (h : KI w A Bx q c W G zs ys v) (hg : v.grownBy v' G.ownBlock) (ho : OwI Bx v' G ys') : KI w A Bx q c W G zs ys' v' := by
  have l1 := h.l1; have l2 := h.l2; have l3 := h.l3; have l0 := h.l0; have hs := hg.size
  have hA : Below (A + 1) v v' := below_of_grown hg (by omega) (fun j e => by have := (h.oG.block j e).1; omega)
  have hq : ∀ o, v'.cell? ⟨q, o, none⟩ = v.cell? ⟨q, o, none⟩ := fun o => hg.cell_far ⟨q, o, none⟩ l3 (fun e => by have := h.gq q e.symm; omega)
  refine ⟨?_, ?_, ?_, ?_, h.sW.keep (hA.mono (by omega)), ho, h.gq, l1, l2, by omega, h.l0, h.bel.trans (hA.mono (by omega))⟩
  · rw [hA.cell (p := ⟨A, 0, none⟩) (by simp)]; exact h.p0
  · rw [hA.cell (p := ⟨A, 1, none⟩) (by simp)]; exact h.p1
  · rw [hq]; exact h.q0
  · rw [hq]; exact h.q1
theorem KI.slW {w : World} {A Bx q : Nat} {c : Int} {W G : Value} {zs ys : List Int} {v : World} (h : KI w A Bx q c W G zs ys v) : Sl .i64 v W zs := h.sW.sl (by have := h.l1; have := h.l2; have := h.l3; omega)

/-- How it begins. -/
theorem ki_start {w w2 w3 w4 : World} {c : Int} {W G x : Value} {zs ys xs : List Int} {T : TypeId} (hb2 : Below w.heap.size w w2) (hW : Sl .i64 w2 W zs)
    (hb3 : Below (w2.alloc (.cells #[.int .i64 c, W] T)).heap.size (w2.alloc (.cells #[.int .i64 c, W] T)) w3) (hx : OwI (w2.alloc (.cells #[.int .i64 c, W] T)).heap.size w3 x xs)
    (hb4 : Below w3.heap.size w3 w4) (hG : OwI w3.heap.size w4 G ys) :
    KI w w2.heap.size w3.heap.size w4.heap.size c W G zs ys (w4.alloc (.cells #[.int .i64 c, G] T)) ∧ (∀ j, x.ownBlock = some j → w2.heap.size < j ∧ j < w3.heap.size) ∧ OwI (w2.heap.size + 1) (w4.alloc (.cells #[.int .i64 c, G] T)) x xs := by
  have s2 := hb2.size
  have s3 : w2.heap.size + 1 ≤ w3.heap.size := by have := hb3.size; simpa using this
  have s4 := hb4.size
  have hb24 := bthen hb3 hb4
  have hb25 := bmore hb24 (.cells #[.int .i64 c, G] T)
  refine ⟨⟨?_, ?_, by simp, by simp, (Sb.of hW).keep ?_, hG.alloc _, fun j e => (hG.block j e).2, by omega, s4, by simp, s2, ?_⟩, fun j e => ?_, ?_⟩
  · rw [hb25.cell (p := ⟨w2.heap.size, 0, none⟩) (by simp)]; simp
  · rw [hb25.cell (p := ⟨w2.heap.size, 1, none⟩) (by simp)]; simp
  · exact (bmore (Below.refl _ w2) (.cells #[.int .i64 c, W] T)).trans (hb25.mono (by simp))
  · exact bthen (bmore hb2 _) hb25
  · have := hx.block j e
    simp at this
    omega
  · have hx' : OwI (w2.heap.size + 1) w3 x xs := by simpa using hx
    exact (hx'.later hb4).alloc _
end Go.Proofs.Ytodfkicmmcfkaaa.ExJ
