/- The program's StartDecode. -/
import Derived.Test.YtdmaeipiikknnaaItr
namespace Go.Proofs.Ytdmaeipiikknnaa.StaI
open Go.ChangeShapes Go.WideShapes Go.ChangeAt Go.RowKit Go.Proofs.Ytdmaeipiikknnaa.Num Go.Proofs.Ytdmaeipiikknnaa.Sli Go.Proofs.Ytdmaeipiikknnaa.App Go.Proofs.Ytdmaeipiikknnaa.Byt Go.Proofs.Ytdmaeipiikknnaa.CrcM Go.Proofs.Ytdmaeipiikknnaa.Str Go.Proofs.Ytdmaeipiikknnaa.Div Go.Proofs.Ytdmaeipiikknnaa.Dec Go.Proofs.Ytdmaeipiikknnaa.Blk Go.Proofs.Ytdmaeipiikknnaa.Nxt Go.Proofs.Ytdmaeipiikknnaa.Byte Go.Proofs.Ytdmaeipiikknnaa.TakS Go.Proofs.Ytdmaeipiikknnaa.TakT Go.Proofs.Ytdmaeipiikknnaa.RngF Go.Proofs.Ytdmaeipiikknnaa.Itr
attribute [local go_sem] Oper.semAt_some

/-- What a loop over a decoder's bytes keeps: the decoder in block g, its copy in block bx, the list, the answer's block rs. -/
structure SD (w : World) (g bx rs : Nat) (v : Value) (xs : List Int) (D0 RZ : Array Value) (a r n : Int) (W : World) : Prop where
  d : Blk W g #[v, .int .i64 a, .int .i64 r, .int .i64 n] 25
  b : Blk W bx D0 25
  o : OwB w.heap.size W v xs
  z : Blk W rs RZ 31
  l : Below w.heap.size w W
theorem SD.put {w : World} {g bx rs : Nat} {v : Value} {xs : List Int} {D0 RZ : Array Value} {a r n : Int} {W : World} (h : SD w g bx rs v xs D0 RZ a r n W) {l : Nat} {o : Obj} (hl : W.heap[l]? = some o) (ho : o.isCells = false) (hw : w.heap.size ≤ l) (o' : Obj) : SD w g bx rs v xs D0 RZ a r n (W.putObj l o') :=
  ⟨h.d.put hl ho o', h.b.put hl ho o', Ow.put h.o hl ho o', h.z.put hl ho o', below_put h.l hl hw o'⟩
theorem SD.later {w : World} {g bx rs : Nat} {v : Value} {xs : List Int} {D0 RZ : Array Value} {a r n : Int} {W W' : World} (h : SD w g bx rs v xs D0 RZ a r n W) (hb : Below W.heap.size W W') : SD w g bx rs v xs D0 RZ a r n W' :=
  ⟨h.d.later hb, h.b.later hb, h.o.later hb, h.z.later hb, bthen h.l hb⟩
/-- The decoder in its block is turned. -/
theorem SD.turn {w : World} {g bx rs : Nat} {v : Value} {xs : List Int} {D0 RZ : Array Value} {a r n a' r' n' : Int} {W W' : World} (h : SD w g bx rs v xs D0 RZ a r n W) (hd : Blk W' g #[v, .int .i64 a', .int .i64 r', .int .i64 n'] 25) (hg : W.grownBy W' (some g)) (h1 : bx ≠ g) (h2 : rs ≠ g) (h3 : w.heap.size ≤ g) : SD w g bx rs v xs D0 RZ a' r' n' W' :=
  ⟨hd, h.b.kept hg (by simpa using fun e => h1 e.symm), ow_apart h.o h.d (by decide) hg, h.z.kept hg (by simpa using fun e => h2 e.symm), h.l.trans (below_of_grown hg h.l.size (fun j e => by cases e; exact h3))⟩
theorem Blk.set5 {w : World} {b : Nat} {v0 v1 v2 v3 v4 : Value} {t : TypeId} (h : Blk w b #[v0, v1, v2, v3, v4] t) (x0 x1 x2 x3 x4 : Value) :
    Blk (((((w.setCell ⟨b, 0, none⟩ x0).setCell ⟨b, 1, none⟩ x1).setCell ⟨b, 2, none⟩ x2).setCell ⟨b, 3, none⟩ x3).setCell ⟨b, 4, none⟩ x4) b #[x0, x1, x2, x3, x4] t := ((((h.set 0 x0).set 1 x1).set 2 x2).set 3 x3).set 4 x4

end Go.Proofs.Ytdmaeipiikknnaa.StaI
