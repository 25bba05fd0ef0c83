/- Laps that are drawn: right ones. -/
import Derived.Test.YtodfkicmmcfkaaaLapU
import Derived.Test.YtodfkicmmcfkaaaDraws
namespace Go.Proofs.Ytodfkicmmcfkaaa.DrwF
open Go.ChangeShapes Go.WideShapes Go.ChangeAt Go.RowKit Go.Proofs.Ytodfkicmmcfkaaa.Num Go.Proofs.Ytodfkicmmcfkaaa.Sli Go.Proofs.Ytodfkicmmcfkaaa.App Go.Proofs.Ytodfkicmmcfkaaa.Samp Go.Proofs.Ytodfkicmmcfkaaa.SampF Go.Proofs.Ytodfkicmmcfkaaa.Blk Go.Proofs.Ytodfkicmmcfkaaa.TurM Go.Proofs.Ytodfkicmmcfkaaa.LapM Go.Proofs.Ytodfkicmmcfkaaa.LapN Go.Proofs.Ytodfkicmmcfkaaa.IntL Go.Proofs.Ytodfkicmmcfkaaa.LapS Go.Proofs.Ytodfkicmmcfkaaa.LapU Go.Proofs.Ytodfkicmmcfkaaa.Src Go.Proofs.Ytodfkicmmcfkaaa.Lists Go.Proofs.Ytodfkicmmcfkaaa.Samples Go.Proofs.Ytodfkicmmcfkaaa.Draws

theorem smL_of {ys : List Int} (h : ∀ y ∈ ys, -32768 ≤ y ∧ y ≤ 32767) : smL ys := by
  rw [← smL_all, List.all_eq_true]
  intro x hx
  exact inB_yes (h x hx).1 (h x hx).2
/-- A list in a block from base on. -/
def Sx (base : Nat) (w : World) (v : Value) (xs : List Int) : Prop :=
  ∃ a cap, v = .slice a xs.length cap ∧ (xs ≠ [] → ∃ b off, a = some ⟨b, off, none⟩ ∧ base ≤ b ∧ b < w.heap.size ∧ ∀ i, i < xs.length → w.cell? ⟨b, off + i, none⟩ = some (.int .i64 (xs.getD i 0)))
theorem Sx.sl {base : Nat} {w : World} {v : Value} {xs : List Int} (h : Sx base w v xs) : Sl .i64 w v xs := by
  obtain ⟨a, cap, rfl, hc⟩ := h
  exact ⟨a, cap, rfl, fun hne => by obtain ⟨b, off, rfl, _, h2, h3⟩ := hc hne; exact ⟨b, off, rfl, h2, h3⟩⟩
theorem Sx.kept {base : Nat} {w w' : World} {v : Value} {xs : List Int} {r : Option Nat} (h : Sx base w v xs) (hg : w.grownBy w' r) (hr : ∀ j, r = some j → j < base) : Sx base w' v xs := by
  obtain ⟨a, cap, rfl, hc⟩ := h
  refine ⟨a, cap, rfl, fun hne => ?_⟩
  obtain ⟨b, off, rfl, h1, h2, h3⟩ := hc hne
  have hb : w'.heap[b]? = w.heap[b]? := hg.block b h2 (fun e => by have := hr b e.symm; omega)
  exact ⟨b, off, rfl, h1, Nat.lt_of_lt_of_le h2 hg.size, fun i hi => by rw [← h3 i hi]; simp only [World.cell?, hb]⟩
theorem Sx.mono {base base' : Nat} {w : World} {v : Value} {xs : List Int} (h : Sx base w v xs) (hb : base' ≤ base) : Sx base' w v xs := by
  obtain ⟨a, cap, rfl, hc⟩ := h
  exact ⟨a, cap, rfl, fun hne => by obtain ⟨b, off, rfl, h1, h2, h3⟩ := hc hne; exact ⟨b, off, rfl, Nat.le_trans hb h1, h2, h3⟩⟩
theorem Sx.of {base : Nat} {w : World} {v : Value} {xs : List Int} (h : OwI base w v xs) : Sx base w v xs := by
  obtain ⟨a, cap, hv, hc⟩ := h.sl
  refine ⟨a, cap, hv, fun hne => ?_⟩
  obtain ⟨b, off, e, h2, h3⟩ := hc hne
  rw [e] at hv
  exact ⟨b, off, e, (h.block b (by rw [hv]; rfl)).1, h2, h3⟩
/-- What the draw of a lap keeps: the answer's block, the lap's block and its lists, the source. -/
structure LD (w0 w : World) (g : Nat) (a : Option Addr) (cap : Nat) (bs : List Int) (R L : Nat) (s : Int) (u t : Value) (half rest : List Int) (at' : Nat) (ty : TypeId) (W : World) : Prop where
  r : Blk W R #[.int .i64 0, .slice none 0 0, .slice none 0 0] ty
  l : Blk W L #[.int .i64 s, u, t] ty
  tw : TW (w.heap.size + 1) u t half rest W
  src : Src w0 W g a cap bs at'
  k : w.grownBy W (some g)
  ne : R ≠ L
  lr : w.heap.size ≤ R
  ll : w.heap.size ≤ L
  lg : g < w.heap.size
section
variable {w0 w W W' : World} {g : Nat} {a : Option Addr} {cap : Nat} {bs : List Int} {R L : Nat} {s : Int} {u t : Value} {half rest : List Int} {at' at2 : Nat} {ty : TypeId}
theorem LD.next (h : LD w0 w g a cap bs R L s u t half rest at' ty W) (hs : Src w0 W' g a cap bs at2) (hg : W.grownBy W' (some g)) : LD w0 w g a cap bs R L s u t half rest at2 ty W' :=
  have h1 := h.lr; have h2 := h.ll; have h3 := h.lg
  ⟨h.r.kept hg (by simp; omega), h.l.kept hg (by simp; omega), h.tw.over (by omega) hg, hs, grown_same h.k hg, h.ne, h1, h2, h3⟩
theorem grown_below {r : Option Nat} (hb : Below W.heap.size W W') : W.grownBy W' r := ⟨hb.os, hb.tape, hb.output, hb.size, fun j hj _ => hb.block j hj⟩
theorem LD.later (h : LD w0 w g a cap bs R L s u t half rest at' ty W) (hb : Below W.heap.size W W') : LD w0 w g a cap bs R L s u t half rest at' ty W' :=
  h.next (src_grown (row := none) h.src (grown_below hb) (fun _ e => by cases e)) (grown_below hb)
/-- The lap is replaced by another one, made since. -/
theorem LD.put {u' t' : Value} {half' rest' : List Int} {base : Nat} {W1 : World} (h : LD w0 w g a cap bs R L s u t half rest at' ty W1) (hl : L < base) (hw : w.heap.size + 1 ≤ base) (ht : TW base u' t' half' rest' W1) (s' : Int) (hw0 : w0.heap.size ≤ L) :
    LD w0 w g a cap bs R L s' u' t' half' rest' at' ty (((W1.setCell ⟨L, 0, none⟩ (.int .i64 s')).setCell ⟨L, 1, none⟩ u').setCell ⟨L, 2, none⟩ t') := by
  have h1 := h.lr; have h2 := h.ll; have h3 := h.lg
  have hg := grown_set3 W1 L (.int .i64 s') u' t'
  refine ⟨h.r.kept hg (by simp; exact h.ne.symm), ((h.l.set 0 _).set 1 _).set 2 _, (ht.over hl hg).mono hw, src_grown h.src hg (fun j e => by cases e; omega), ?_, h.ne, h1, h2, h3⟩
  refine ⟨h.k.os, h.k.tape, h.k.output, Nat.le_trans h.k.size hg.size, fun j hj hne => ?_⟩
  rw [hg.block j (Nat.lt_of_lt_of_le hj h.k.size) (by simp; omega), h.k.block j hj hne]
end
theorem src_drew {w0 W : World} {g : Nat} {a : Option Addr} {cap : Nat} {bs : List Int} {at' : Nat} (h : Src w0 W g a cap bs at') : Src w0 W.drew g a cap bs at' := ⟨h.1, h.2.1.drew, h.2.2⟩
section
variable {w0 w W : World} {g : Nat} {a : Option Addr} {cap : Nat} {bs : List Int} {R L : Nat} {s : Int} {u t : Value} {half rest : List Int} {at' : Nat} {ty : TypeId} {gh gr m c1 c2 : Nat}
theorem LD.drew (h : LD w0 w g a cap bs R L s u t half rest at' ty W) : LD w0 w g a cap bs R L s u t half rest at' ty W.drew :=
  ⟨h.r, h.l, ⟨h.tw.s, h.tw.d, h.tw.ne⟩, src_drew h.src, ⟨h.k.os, h.k.tape, h.k.output, h.k.size, h.k.block⟩, h.ne, h.lr, h.ll, h.lg⟩
/-- A number of the first list is written; of the second one. -/
theorem LD.setS (h : LD w0 w g a cap bs R L s (.slice (some ⟨gh, 0, none⟩) m c1) (.slice (some ⟨gr, 0, none⟩) m c2) half rest at' ty W) (hm : half.length = m) (i : Nat) (x : Int) (hR : gh ≠ R) (hL : gh ≠ L) (hn : gh ≠ gr) (hw0 : w.heap.size ≤ gh ∧ w0.heap.size ≤ gh) :
    LD w0 w g a cap bs R L s (.slice (some ⟨gh, 0, none⟩) m c1) (.slice (some ⟨gr, 0, none⟩) m c2) (half.set i x) rest at' ty (W.setCell ⟨gh, i, none⟩ (.int .i64 x)) := by
  have h1 := h.lr; have h2 := h.ll; have h3 := h.lg
  have hst := App.Ow.set h.tw.s hm.symm i x
  have hg := hst.2
  refine ⟨h.r.kept hg (by simp; omega), h.l.kept hg (by simp; omega), ⟨hst.1, IntA.Ow.keptNe h.tw.d hg (fun j e => by cases e; simp [Value.ownBlock]; omega), h.tw.ne⟩, src_grown h.src hg (fun j e => by cases e; omega), ?_, h.ne, h1, h2, h3⟩
  refine ⟨h.k.os, h.k.tape, h.k.output, Nat.le_trans h.k.size hg.size, fun j hj hne => ?_⟩
  rw [hg.block j (Nat.lt_of_lt_of_le hj h.k.size) (by simp; omega), h.k.block j hj hne]
theorem LD.setD (h : LD w0 w g a cap bs R L s (.slice (some ⟨gh, 0, none⟩) m c1) (.slice (some ⟨gr, 0, none⟩) m c2) half rest at' ty W) (hm : rest.length = m) (i : Nat) (x : Int) (hR : gr ≠ R) (hL : gr ≠ L) (hn : gh ≠ gr) (hw0 : w.heap.size ≤ gr ∧ w0.heap.size ≤ gr) :
    LD w0 w g a cap bs R L s (.slice (some ⟨gh, 0, none⟩) m c1) (.slice (some ⟨gr, 0, none⟩) m c2) half (rest.set i x) at' ty (W.setCell ⟨gr, i, none⟩ (.int .i64 x)) := by
  have h1 := h.lr; have h2 := h.ll; have h3 := h.lg
  have hst := App.Ow.set h.tw.d hm.symm i x
  have hg := hst.2
  refine ⟨h.r.kept hg (by simp; omega), h.l.kept hg (by simp; omega), ⟨IntA.Ow.keptNe h.tw.s hg (fun j e => by cases e; simp [Value.ownBlock]; omega), hst.1, h.tw.ne⟩, src_grown h.src hg (fun j e => by cases e; omega), ?_, h.ne, h1, h2, h3⟩
  refine ⟨h.k.os, h.k.tape, h.k.output, Nat.le_trans h.k.size hg.size, fun j hj hne => ?_⟩
  rw [hg.block j (Nat.lt_of_lt_of_le hj h.k.size) (by simp; omega), h.k.block j hj hne]
end
/-- What holds of a lap but for its own block. -/
structure LE (w0 w : World) (g : Nat) (a : Option Addr) (cap : Nat) (bs : List Int) (u t : Value) (half rest : List Int) (at' : Nat) (W : World) : Prop where
  tw : TW (w.heap.size + 1) u t half rest W
  src : Src w0 W g a cap bs at'
  k : w.grownBy W (some g)
/-- The first list's slot alone is replaced. -/
theorem LD.two {w0 w W : World} {g : Nat} {a : Option Addr} {cap : Nat} {bs : List Int} {R L : Nat} {s : Int} {u t : Value} {half rest : List Int} {at' : Nat} {ty : TypeId} (h : LD w0 w g a cap bs R L s u t half rest at' ty W) (u' : Value) (hb : ∀ j, (u.ownBlock = some j ∨ t.ownBlock = some j) → j ≠ L) (hw0 : w0.heap.size ≤ L) :
    LE w0 w g a cap bs u t half rest at' (W.setCell ⟨L, 1, none⟩ u') := by
  have h1 := h.lr; have h2 := h.ll; have h3 := h.lg
  have hg := grown_set W L 1 u'
  refine ⟨⟨IntA.Ow.keptNe h.tw.s hg (fun j e => by cases e; intro e2; exact hb L (.inl e2) rfl), IntA.Ow.keptNe h.tw.d hg (fun j e => by cases e; intro e2; exact hb L (.inr e2) rfl), h.tw.ne⟩, src_grown h.src hg (fun j e => by cases e; omega), ?_⟩
  refine ⟨h.k.os, h.k.tape, h.k.output, Nat.le_trans h.k.size hg.size, fun j hj hne => ?_⟩
  rw [hg.block j (Nat.lt_of_lt_of_le hj h.k.size) (by simp; omega), h.k.block j hj hne]
/-- The size alone is replaced. -/
theorem LD.one {w0 w W : World} {g : Nat} {a : Option Addr} {cap : Nat} {bs : List Int} {R L : Nat} {s : Int} {u t : Value} {half rest : List Int} {at' : Nat} {ty : TypeId} (h : LD w0 w g a cap bs R L s u t half rest at' ty W) (s' : Int) (hb : ∀ j, (u.ownBlock = some j ∨ t.ownBlock = some j) → j ≠ L) (hw0 : w0.heap.size ≤ L) :
    LD w0 w g a cap bs R L s' u t half rest at' ty (W.setCell ⟨L, 0, none⟩ (.int .i64 s')) := by
  have h1 := h.lr; have h2 := h.ll; have h3 := h.lg
  have hg := grown_set W L 0 (.int .i64 s')
  refine ⟨h.r.kept hg (by simp; exact h.ne.symm), h.l.set 0 _, ⟨IntA.Ow.keptNe h.tw.s hg (fun j e => by cases e; intro e2; exact hb L (.inl e2) rfl), IntA.Ow.keptNe h.tw.d hg (fun j e => by cases e; intro e2; exact hb L (.inr e2) rfl), h.tw.ne⟩, src_grown h.src hg (fun j e => by cases e; omega), ?_, h.ne, h1, h2, h3⟩
  refine ⟨h.k.os, h.k.tape, h.k.output, Nat.le_trans h.k.size hg.size, fun j hj hne => ?_⟩
  rw [hg.block j (Nat.lt_of_lt_of_le hj h.k.size) (by simp; omega), h.k.block j hj hne]
end Go.Proofs.Ytodfkicmmcfkaaa.DrwF
