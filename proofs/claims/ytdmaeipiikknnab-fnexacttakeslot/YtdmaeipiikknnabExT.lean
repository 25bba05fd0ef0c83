/- What the exact law of TakeSlot keeps on its way: the arguments in their boxes. -/
import Derived.Test.YtdmaeipiikknnabExQ
import Derived.Test.YtdmaeipiikknnabTakI
import Derived.Deep.CutBlock
namespace Go.Proofs.Ytdmaeipiikknnab.ExT
open Go.ChangeShapes Go.WideShapes Go.ChangeAt Go.RowKit Go.Proofs.Ytdmaeipiikknnab.Num Go.Proofs.Ytdmaeipiikknnab.Sli Go.Proofs.Ytdmaeipiikknnab.App Go.Proofs.Ytdmaeipiikknnab.Byt Go.Proofs.Ytdmaeipiikknnab.CrcM Go.Proofs.Ytdmaeipiikknnab.Blk Go.Proofs.Ytdmaeipiikknnab.TakS Go.Proofs.Ytdmaeipiikknnab.TakT Go.Proofs.Ytdmaeipiikknnab.StaI Go.Proofs.Ytdmaeipiikknnab.TakI Go.Proofs.Ytdmaeipiikknnab.ExD Go.Proofs.Ytdmaeipiikknnab.ExQ

theorem tD_small (d : Dv) (lo sz tot : Int) (h : d.xs.length ≤ 1048576) : (tD d lo sz tot).xs.length ≤ 1048576 := by
  unfold tD
  split
  · exact h
  · exact Nat.zero_le _
/-- The arguments in their boxes. -/
structure AR (w : World) (a : Option Addr) (cap : Nat) (xs : List Int) (u v r lo sz tot : Int) (W : World) : Prop where
  p : Blk W w.heap.size #[.slice a xs.length cap, .int .i64 u, .int .i64 v, .int .i64 r] 34
  s : Blk W (w.heap.size + 1) #[.int .i64 lo, .int .i64 sz, .int .i64 tot] 44
  l : Below w.heap.size w W
variable {w : World} {a : Option Addr} {cap : Nat} {xs : List Int} {u v r lo sz tot : Int} {W W' : World}
theorem AR.later (h : AR w a cap xs u v r lo sz tot W) (hb : Below W.heap.size W W') : AR w a cap xs u v r lo sz tot W' := ⟨h.p.later hb, h.s.later hb, bthen h.l hb⟩
theorem AR.drew (h : AR w a cap xs u v r lo sz tot W) : AR w a cap xs u v r lo sz tot W.drew := ⟨h.p, h.s, drewB h.l⟩
theorem AR.turn (h : AR w a cap xs u v r lo sz tot W) {row : Option Nat} (hg : W.grownBy W' row) (hr : ∀ j, row = some j → w.heap.size + 2 ≤ j) : AR w a cap xs u v r lo sz tot W' :=
  ⟨h.p.kept hg (fun e => by have := hr _ e; omega), h.s.kept hg (fun e => by have := hr _ e; omega), h.l.trans (below_of_grown hg h.l.size (fun j e => by have := hr j e; omega))⟩
theorem AR.sl (h : AR w a cap xs u v r lo sz tot W) (s0 : Sl .u8 w (.slice a xs.length cap) xs) : Sl .u8 W (.slice a xs.length cap) xs := s0.later h.l
theorem AR.lt (h : AR w a cap xs u v r lo sz tot W) : w.heap.size + 2 ≤ W.heap.size := h.s.lt
theorem ar_new (h : AR w a cap xs u v r lo sz tot W) : AR w a cap xs u v r lo sz tot (W.alloc (.cells #[.int .i64 0, .slice none 0 0, .int .i64 0, .int .i64 0, .int .i64 0] 26)) ∧ Blk (W.alloc (.cells #[.int .i64 0, .slice none 0 0, .int .i64 0, .int .i64 0, .int .i64 0] 26)) W.heap.size #[.int .i64 0, .slice none 0 0, .int .i64 0, .int .i64 0, .int .i64 0] 26 := ⟨h.later (bmore (Below.refl _ _) _), Blk.new _ _ _⟩

/-- Behind the model's answer: it lies in block A, its list is W. -/
structure A1 (w : World) (a : Option Addr) (cap : Nat) (xs : List Int) (u v r lo sz tot : Int) (A : Nat) (c : Int) (vW : Value) (d : Dv) (W : World) : Prop where
  r : AR w a cap xs u v r lo sz tot W
  p : Blk W A #[.int .i64 c, vW, .int .i64 d.at', .int .i64 d.rst, .int .i64 d.rng] 26
  o : OwB w.heap.size W vW d.xs
variable {A : Nat} {c : Int} {vW : Value} {d : Dv}
theorem A1.later (h : A1 w a cap xs u v r lo sz tot A c vW d W) (hb : Below W.heap.size W W') : A1 w a cap xs u v r lo sz tot A c vW d W' := ⟨h.r.later hb, h.p.later hb, h.o.later hb⟩
theorem a1_set {b : Nat} {y0 y1 y2 y3 y4 : Value} (h : AR w a cap xs u v r lo sz tot W) (hB : Blk W b #[y0, y1, y2, y3, y4] 26) (hb : w.heap.size + 2 ≤ b) (ho : OwB w.heap.size W vW d.xs) :
    A1 w a cap xs u v r lo sz tot b c vW d (((((W.setCell ⟨b, 0, none⟩ (.int .i64 c)).setCell ⟨b, 1, none⟩ vW).setCell ⟨b, 2, none⟩ (.int .i64 d.at')).setCell ⟨b, 3, none⟩ (.int .i64 d.rst)).setCell ⟨b, 4, none⟩ (.int .i64 d.rng)) :=
  ⟨h.turn (grown_set5 W b _ _ _ _ _) (fun j e => by cases e; exact hb), Blk.set5 hB _ _ _ _ _, ow_apart ho hB (by decide) (grown_set5 W b _ _ _ _ _)⟩
theorem a1_new (h : AR w a cap xs u v r lo sz tot W) (ho : OwB w.heap.size W vW d.xs) :
    A1 w a cap xs u v r lo sz tot W.heap.size c vW d (W.alloc (.cells #[.int .i64 c, vW, .int .i64 d.at', .int .i64 d.rst, .int .i64 d.rng] 26)) :=
  ⟨h.later (bmore (Below.refl _ _) _), Blk.new _ _ _, ho.alloc _⟩

/-- Behind the argument's copy too: it lies in block B. -/
structure A2 (w : World) (a : Option Addr) (cap : Nat) (xs : List Int) (u v r lo sz tot : Int) (A : Nat) (c : Int) (vW : Value) (d : Dv) (B m Bx : Nat) (vX : Value) (W : World) : Prop where
  a : A1 w a cap xs u v r lo sz tot A c vW d W
  b : Blk W B #[vX, .int .i64 u, .int .i64 v, .int .i64 r] 24
  o : OwB m W vX xs
  wm : ∀ j, vW.ownBlock = some j → j < m
  xb : ∀ j, vX.ownBlock = some j → j < Bx
  l1 : m ≤ Bx
  l2 : Bx ≤ W.heap.size
  l0 : w.heap.size + 2 ≤ m
variable {B m Bx : Nat} {vX : Value}
theorem A2.later (h : A2 w a cap xs u v r lo sz tot A c vW d B m Bx vX W) (hb : Below W.heap.size W W') : A2 w a cap xs u v r lo sz tot A c vW d B m Bx vX W' := ⟨h.a.later hb, h.b.later hb, h.o.later hb, h.wm, h.xb, h.l1, Nat.le_trans h.l2 hb.size, h.l0⟩
theorem A2.drew (h : A2 w a cap xs u v r lo sz tot A c vW d B m Bx vX W) : A2 w a cap xs u v r lo sz tot A c vW d B m Bx vX W.drew := ⟨⟨h.a.r.drew, h.a.p, h.a.o⟩, h.b, h.o, h.wm, h.xb, h.l1, h.l2, h.l0⟩
theorem A2.alloc (h : A2 w a cap xs u v r lo sz tot A c vW d B m Bx vX W) (o : Obj) : A2 w a cap xs u v r lo sz tot A c vW d B m Bx vX (W.alloc o) := h.later (bmore (Below.refl _ _) o)
theorem a2_new (h : A2 w a cap xs u v r lo sz tot A c vW d B m Bx vX W) : A2 w a cap xs u v r lo sz tot A c vW d B m Bx vX (W.alloc (.cells #[.int .i64 0, .slice none 0 0, .int .i64 0, .int .i64 0, .int .i64 0] 26)) ∧ Blk (W.alloc (.cells #[.int .i64 0, .slice none 0 0, .int .i64 0, .int .i64 0, .int .i64 0] 26)) W.heap.size #[.int .i64 0, .slice none 0 0, .int .i64 0, .int .i64 0, .int .i64 0] 26 ∧ Bx ≤ W.heap.size ∧ A ≠ W.heap.size := ⟨h.alloc _, Blk.new _ _ _, h.l2, Nat.ne_of_lt h.a.p.lt⟩

/-- Behind the program's answer in block q, its list G. -/
structure A3 (w : World) (a : Option Addr) (cap : Nat) (xs : List Int) (u v r lo sz tot : Int) (A : Nat) (c : Int) (vW : Value) (d : Dv) (B m Bx : Nat) (vX : Value) (q : Nat) (vG : Value) (ys : List Int) (W : World) : Prop where
  ar : AR w a cap xs u v r lo sz tot W
  k : KQ w A q m Bx #[.int .i64 c, vW, .int .i64 d.at', .int .i64 d.rst, .int .i64 d.rng] #[.int .i64 c, vG, .int .i64 d.at', .int .i64 d.rst, .int .i64 d.rng] 26 vW vG d.xs ys W
  b : Blk W B #[vX, .int .i64 u, .int .i64 v, .int .i64 r] 24
  o : OwB m W vX xs
  xb : ∀ j, vX.ownBlock = some j → j < Bx
  l0 : w.heap.size + 2 ≤ m
variable {q : Nat} {vG : Value} {ys : List Int}
theorem A3.later (h : A3 w a cap xs u v r lo sz tot A c vW d B m Bx vX q vG ys W) (hb : Below W.heap.size W W') : A3 w a cap xs u v r lo sz tot A c vW d B m Bx vX q vG ys W' := ⟨h.ar.later hb, h.k.later hb, h.b.later hb, h.o.later hb, h.xb, h.l0⟩
theorem A3.drew (h : A3 w a cap xs u v r lo sz tot A c vW d B m Bx vX q vG ys W) : A3 w a cap xs u v r lo sz tot A c vW d B m Bx vX q vG ys W.drew := ⟨h.ar.drew, h.k.drew, h.b, h.o, h.xb, h.l0⟩
theorem a3_of (h : A2 w a cap xs u v r lo sz tot A c vW d B m Bx vX W) (hq : Blk W q #[.int .i64 c, vG, .int .i64 d.at', .int .i64 d.rst, .int .i64 d.rng] 26) (ho : OwB Bx W vG d.xs) : A3 w a cap xs u v r lo sz tot A c vW d B m Bx vX q vG d.xs W :=
  ⟨h.a.r, ⟨h.a.p, hq, h.a.o, h.wm, ho, by have := h.l0; omega, h.l1, h.a.r.l⟩, h.b, h.o, h.xb, h.l0⟩
theorem a3_set {b : Nat} {y0 y1 y2 y3 y4 : Value} (h : A2 w a cap xs u v r lo sz tot A c vW d B m Bx vX W) (hB : Blk W b #[y0, y1, y2, y3, y4] 26) (hb : Bx ≤ b) (hA : A ≠ b) (ho : OwB Bx W vG d.xs) :
    A3 w a cap xs u v r lo sz tot A c vW d B m Bx vX b vG d.xs (((((W.setCell ⟨b, 0, none⟩ (.int .i64 c)).setCell ⟨b, 1, none⟩ vG).setCell ⟨b, 2, none⟩ (.int .i64 d.at')).setCell ⟨b, 3, none⟩ (.int .i64 d.rst)).setCell ⟨b, 4, none⟩ (.int .i64 d.rng)) := by
  have hg := grown_set5 W b (.int .i64 c) vG (.int .i64 d.at') (.int .i64 d.rst) (.int .i64 d.rng)
  have hBne : B ≠ b := by
    rintro rfl
    have := (show W.heap[B]? = _ from h.b).symm.trans hB
    simp at this
  have h0 := h.l0
  have h1 := h.l1
  refine ⟨h.a.r.turn hg (fun j e => by cases e; omega), ⟨h.a.p.kept hg (by simpa using fun e => hA e.symm), Blk.set5 hB _ _ _ _ _, ow_apart h.a.o hB (by decide) hg, h.wm, ow_apart ho hB (by decide) hg, by omega, h1, ?_⟩, h.b.kept hg (by simpa using fun e => hBne e.symm), ow_apart h.o hB (by decide) hg, h.xb, h0⟩
  exact below_set5 h.a.r.l (by omega) _ _ _ _ _
theorem a3_new (h : A2 w a cap xs u v r lo sz tot A c vW d B m Bx vX W) (ho : OwB Bx W vG d.xs) :
    A3 w a cap xs u v r lo sz tot A c vW d B m Bx vX W.heap.size vG d.xs (W.alloc (.cells #[.int .i64 c, vG, .int .i64 d.at', .int .i64 d.rst, .int .i64 d.rng] 26)) :=
  a3_of (h.alloc _) (Blk.new _ _ _) (ho.alloc _)
/-- The argument's copy is marked. -/
theorem A3.markX (h : A3 w a cap xs u v r lo sz tot A c vW d B m Bx vX q vG ys W) (hg : W.grownBy W' vX.ownBlock) : AR w a cap xs u v r lo sz tot W' ∧ KQ w A q m Bx #[.int .i64 c, vW, .int .i64 d.at', .int .i64 d.rst, .int .i64 d.rng] #[.int .i64 c, vG, .int .i64 d.at', .int .i64 d.rst, .int .i64 d.rng] 26 vW vG d.xs ys W' :=
  ⟨h.ar.turn hg (fun j e => by have := (h.o.block j e).1; have := h.l0; omega), h.k.mark (by decide) h.o h.xb hg⟩
/-- The program's second answer. -/
theorem kq_new {RA RQ : Array Value} {zs : List Int} (h : KQ w A q m Bx RA RQ 26 vW vG zs ys W) : KQ w A q m Bx RA RQ 26 vW vG zs ys (W.alloc (.cells #[.int .i64 0, .slice none 0 0, .int .i64 0, .int .i64 0, .int .i64 0] 26)) ∧ Blk (W.alloc (.cells #[.int .i64 0, .slice none 0 0, .int .i64 0, .int .i64 0, .int .i64 0] 26)) W.heap.size #[.int .i64 0, .slice none 0 0, .int .i64 0, .int .i64 0, .int .i64 0] 26 ∧ A ≠ W.heap.size ∧ q ≠ W.heap.size ∧ w.heap.size ≤ W.heap.size :=
  ⟨h.later (bmore (Below.refl _ _) _), Blk.new _ _ _, Nat.ne_of_lt h.p.lt, Nat.ne_of_lt h.q.lt, h.bel.size⟩
structure A5 (w : World) (A q m Bx : Nat) (RA RQ : Array Value) (vW vG : Value) (zs ys : List Int) (c : Int) (Q : Nat) (vV : Value) (d : Dv) (W : World) : Prop where
  k : KQ w A q m Bx RA RQ 26 vW vG zs ys W
  p : Blk W Q #[.int .i64 c, vV, .int .i64 d.at', .int .i64 d.rst, .int .i64 d.rng] 26
  o : OwB w.heap.size W vV d.xs
theorem a5_set {RA RQ : Array Value} {zs : List Int} {vV : Value} {b : Nat} {y0 y1 y2 y3 y4 : Value} (h : KQ w A q m Bx RA RQ 26 vW vG zs ys W) (hB : Blk W b #[y0, y1, y2, y3, y4] 26) (hne : A ≠ b ∧ q ≠ b ∧ w.heap.size ≤ b) (ho : OwB w.heap.size W vV d.xs) :
    A5 w A q m Bx RA RQ vW vG zs ys c b vV d (((((W.setCell ⟨b, 0, none⟩ (.int .i64 c)).setCell ⟨b, 1, none⟩ vV).setCell ⟨b, 2, none⟩ (.int .i64 d.at')).setCell ⟨b, 3, none⟩ (.int .i64 d.rst)).setCell ⟨b, 4, none⟩ (.int .i64 d.rng)) := by
  have hg := grown_set5 W b (.int .i64 c) vV (.int .i64 d.at') (.int .i64 d.rst) (.int .i64 d.rng)
  exact ⟨⟨h.p.kept hg (by simpa using fun e => hne.1 e.symm), h.q.kept hg (by simpa using fun e => hne.2.1 e.symm), ow_apart h.oW hB (by decide) hg, h.wm, ow_apart h.oG hB (by decide) hg, h.l0, h.l1, below_set5 h.bel hne.2.2 _ _ _ _ _⟩, Blk.set5 hB _ _ _ _ _, ow_apart ho hB (by decide) hg⟩
theorem a5_new {RA RQ : Array Value} {zs : List Int} {vV : Value} (h : KQ w A q m Bx RA RQ 26 vW vG zs ys W) (ho : OwB w.heap.size W vV d.xs) :
    A5 w A q m Bx RA RQ vW vG zs ys c W.heap.size vV d (W.alloc (.cells #[.int .i64 c, vV, .int .i64 d.at', .int .i64 d.rst, .int .i64 d.rng] 26)) :=
  ⟨h.later (bmore (Below.refl _ _) _), Blk.new _ _ _, ho.alloc _⟩
end Go.Proofs.Ytdmaeipiikknnab.ExT
