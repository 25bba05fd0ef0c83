/- What an exact law over answers with a decoder keeps on its way. -/
import Derived.Test.YtdmaeipiikknnabExD
namespace Go.Proofs.Ytdmaeipiikknnab.ExQ
open Go.ChangeShapes Go.WideShapes Go.ChangeAt Go.RowKit Go.Proofs.Ytdmaeipiikknnab.Num Go.Proofs.Ytdmaeipiikknnab.Sli Go.Proofs.Ytdmaeipiikknnab.App Go.Proofs.Ytdmaeipiikknnab.Byt Go.Proofs.Ytdmaeipiikknnab.CrcM Go.Proofs.Ytdmaeipiikknnab.Blk Go.Proofs.Ytdmaeipiikknnab.TakS Go.Proofs.Ytdmaeipiikknnab.TakT Go.Proofs.Ytdmaeipiikknnab.ExD

theorem ow_sep {base : Nat} {v v' : World} {W : Value} {zs : List Int} {row : Option Nat} (h : OwB base v W zs) (hg : v.grownBy v' row) (hne : ∀ j, W.ownBlock = some j → row ≠ some j) : OwB base v' W zs := by
  have h' : v.ownsRow base 5 1 W zs.length (zs.map (Value.int .u8)) := h
  refine h'.kept hg ?_
  cases hv : W.ownBlock with
  | none => exact Or.inl rfl
  | some j => exact Or.inr fun e => hne j hv e.symm
theorem own_not_blk {base A : Nat} {v : World} {x : Value} {xs : List Int} {RA : Array Value} {T : TypeId} (h : OwB base v x xs) (hp : Blk v A RA T) (hT : T ≠ 5) : x.ownBlock ≠ some A := by
  have h' : v.ownsRow base 5 1 x xs.length (xs.map (Value.int .u8)) := h
  rcases h'.2 with ⟨rfl, _⟩ | ⟨g', cap, cur, rfl, _, hgb, _⟩
  · simp [Value.ownBlock]
  · intro e'
    obtain rfl : g' = A := by simpa [Value.ownBlock] using e'
    have := (show v.heap[g']? = _ from hp).symm.trans hgb
    simp at this
    exact hT this.2
/-- The model's answer in block A, its list W below m; the program's answer in block q, its list G from Bx on. -/
structure KQ (w : World) (A q m Bx : Nat) (RA RQ : Array Value) (T : TypeId) (W G : Value) (zs ys : List Int) (v : World) : Prop where
  p : Blk v A RA T
  q : Blk v q RQ T
  oW : OwB w.heap.size v W zs
  wm : ∀ j, W.ownBlock = some j → j < m
  oG : OwB Bx v G ys
  l0 : w.heap.size ≤ m
  l1 : m ≤ Bx
  bel : Below w.heap.size w v
theorem KQ.later {w : World} {A q m Bx : Nat} {RA RQ : Array Value} {T : TypeId} {W G : Value} {zs ys : List Int} {v v' : World} (h : KQ w A q m Bx RA RQ T W G zs ys v) (hb : Below v.heap.size v v') : KQ w A q m Bx RA RQ T W G zs ys v' :=
  ⟨h.p.later hb, h.q.later hb, h.oW.later hb, h.wm, h.oG.later hb, h.l0, h.l1, bthen h.bel hb⟩
theorem KQ.drew {w : World} {A q m Bx : Nat} {RA RQ : Array Value} {T : TypeId} {W G : Value} {zs ys : List Int} {v : World} (h : KQ w A q m Bx RA RQ T W G zs ys v) : KQ w A q m Bx RA RQ T W G zs ys v.drew :=
  ⟨h.p, h.q, h.oW, h.wm, h.oG, h.l0, h.l1, drewB h.bel⟩
/-- The argument is marked: its list lies between m and Bx. -/
theorem KQ.mark {w : World} {A q m Bx : Nat} {RA RQ : Array Value} {T : TypeId} {W G x : Value} {zs ys xs : List Int} {v v' : World} (h : KQ w A q m Bx RA RQ T W G zs ys v) (hT : T ≠ 5) (hx : OwB m v x xs) (hxb : ∀ j, x.ownBlock = some j → j < Bx) (hg : v.grownBy v' x.ownBlock) : KQ w A q m Bx RA RQ T W G zs ys v' :=
  ⟨h.p.kept hg (own_not_blk hx h.p hT), h.q.kept hg (own_not_blk hx h.q hT), ow_sep h.oW hg (fun j e e' => by have h1 := h.wm j e; have h2 := (hx.block j e').1; omega), h.wm, ow_sep h.oG hg (fun j e e' => by have h1 := (h.oG.block j e).1; have h2 := hxb j e'; omega), h.l0, h.l1,
   h.bel.trans (below_of_grown hg h.bel.size (fun j e => by have h1 := (hx.block j e).1; have h2 := h.l0; omega))⟩
theorem KQ.markG {w : World} {A q m Bx : Nat} {RA RQ : Array Value} {T : TypeId} {W G : Value} {zs ys ys' : List Int} {v v' : World} (h : KQ w A q m Bx RA RQ T W G zs ys v) (hT : T ≠ 5) (hg : v.grownBy v' G.ownBlock) (ho : OwB Bx v' G ys') : KQ w A q m Bx RA RQ T W G zs ys' v' :=
  ⟨h.p.kept hg (own_not_blk h.oG h.p hT), h.q.kept hg (own_not_blk h.oG h.q hT), ow_sep h.oW hg (fun j e e' => by have h1 := h.wm j e; have h2 := (h.oG.block j e').1; have h3 := h.l1; omega), h.wm, ho, h.l0, h.l1,
   h.bel.trans (below_of_grown hg h.bel.size (fun j e => by have h1 := (h.oG.block j e).1; have h2 := h.l0; have h3 := h.l1; omega))⟩
end Go.Proofs.Ytdmaeipiikknnab.ExQ
