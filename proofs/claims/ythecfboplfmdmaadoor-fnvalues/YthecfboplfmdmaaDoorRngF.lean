/- A range over a function, where the iterator and the rounds may turn each other's memory: one law, in which both speak of the whole world. -/
import Derived.Test.YthecfboplfmdmaaDoorApp
import Derived.RangeFuncNested
import Derived.RangeFuncBound
import Derived.RangeFuncCalls
import Derived.RangeFuncLeaves
import Derived.ControlIn
namespace Go.Proofs.YthecfboplfmdmaaDoor.RngF
open Go.ChangeShapes Go.WideShapes Go.ChangeAt Go.RowKit Go.Proofs.YthecfboplfmdmaaDoor.Num Go.Proofs.YthecfboplfmdmaaDoor.Sli Go.Proofs.YthecfboplfmdmaaDoor.App

/-- The loop's two blocks lie as they lay. -/
def Kp2 (B : Nat) (W W' : World) : Prop := W'.heap[B]? = W.heap[B]? ∧ W'.heap[B + 1]? = W.heap[B + 1]?
theorem Kp2.refl (B : Nat) (W : World) : Kp2 B W W := ⟨rfl, rfl⟩
theorem Kp2.trans {B : Nat} {W W1 W2 : World} (h : Kp2 B W W1) (k : Kp2 B W1 W2) : Kp2 B W W2 := ⟨k.1.trans h.1, k.2.trans h.2⟩
theorem Kp2.below {B : Nat} {W W' : World} (h : Below W.heap.size W W') (hB : B + 1 < W.heap.size) : Kp2 B W W' := ⟨h.block B (by omega), h.block (B + 1) hB⟩
theorem Kp2.grown {B : Nat} {W W' : World} {row : Option Nat} (h : W.grownBy W' row) (hB : B + 1 < W.heap.size) (hr : ∀ j, row = some j → j ≠ B ∧ j ≠ B + 1) : Kp2 B W W' :=
  ⟨h.block B (by omega) (fun e => (hr B e.symm).1 rfl), h.block (B + 1) hB (fun e => (hr (B + 1) e.symm).2 rfl)⟩
theorem Kp2.set {B : Nat} (W : World) (b o : Nat) (v : Value) (h : b ≠ B ∧ b ≠ B + 1) : Kp2 B W (W.setCell ⟨b, o, none⟩ v) :=
  ⟨Below.heap_setCell W ⟨b, o, none⟩ v B (fun e => h.1 e.symm), Below.heap_setCell W ⟨b, o, none⟩ v (B + 1) (fun e => h.2 e.symm)⟩

/-- What a round's body leaves. -/
def rPost (B : Nat) (O : World → Prop) (X : Code → World → Prop) (W : World) : Exit → Act → World → Prop
  | .normal, _, W' => Kp2 B W W' ∧ O W'
  | .ret, _, W' => Kp2 B W W' ∧ X .ret W'
  | .exit id, _, W' => Kp2 B W W' ∧ X (.exit id) W'
  | .goto t, _, W' => Kp2 B W W' ∧ X (.goto t) W'
  | .panic _, _, _ => False
  | .outgrown, _, _ => False

/-- The loop's record stands so, and no deferred call waits. -/
structure Bk (B : Nat) (r : Loop) (W : World) : Prop where
  l : W.heap[B + 1]? = some (.loop r)
  d : W.heap[B]? = some (.deferred (some []))
theorem Bk.keep {B : Nat} {r : Loop} {W W' : World} (h : Bk B r W) (k : Kp2 B W W') : Bk B r W' := ⟨k.2.trans h.l, k.1.trans h.d⟩
theorem Bk.lt {B : Nat} {r : Loop} {W : World} (h : Bk B r W) : B + 1 < W.heap.size := (Array.getElem?_eq_some_iff.1 h.l).1

/-- A fact that does not mind the turns of the loop's own record. -/
def Mild (B : Nat) (I : World → Prop) : Prop := ∀ W o o', I W → W.heap[B + 1]? = some (.loop o) → I (W.putObj (B + 1) (.loop o'))

theorem wp_range {P : Program} {α σ : Type} {g : Operand} {ps : Array Tmp} {assign body : Code} {Q : Exit → Act → World → Prop} {a : Act} {w : World}
    {gf : Nat} {lb : Array Value} (hg : a.eval g = .func (.func gf) #[] lb) (eg : ∀ args w, (callFunc gf args).run P w = .ok (.enter gf args) w)
    (encs : α → Array Value) (hps : ∀ x, (encs x).size = ps.size)
    (I O : σ → α → World → Prop) (X : σ → α → Code → World → Prop) (Dn : World → Prop) (Xn : Code → World → Prop)
    (hI : ∀ s x, Mild w.heap.size (I s x)) (hO : ∀ s x, Mild w.heap.size (O s x)) (hX : ∀ s x c, Mild w.heap.size (X s x c)) (a₁ : α → Act)
    (hassign : ∀ (x : α) (W : World) (K : Act → World → Prop), K (a₁ x) W →
      assign.wpIn (Fence.wide.inRound (w.heap.size + 1)) 0 P (Exit.then K (fun _ _ _ => False)) { tmps := (ps.zip (encs x)).foldl (fun t (p, v) => t.setIfInBounds p v) a.tmps, defers := [] } W)
    (hbody : ∀ s x W, w.heap.size + 1 < W.heap.size → I s x W → body.wpIn (Fence.wide.inRound (w.heap.size + 1)) 0 P (rPost w.heap.size (O s x) (X s x) W) (a₁ x) W)
    (hiter : ∀ (r0 : Loop) (rc : Code → Loop) (W1 : World), w.grownBy W1 none → W1.heap.size = w.heap.size + 2 → Bk w.heap.size r0 W1 →
      (∀ s x W, I s x W → Bk w.heap.size r0 W → YieldAt Fence.wide 0 P (w.heap.size + 1) (encs x) W fun e W' =>
        (e = .returned (.bool true) ∧ O s x W' ∧ Bk w.heap.size r0 W') ∨ (e = .returned (.bool false) ∧ ∃ c, X s x c W' ∧ Bk w.heap.size (rc c) W')) →
      CallsIn Fence.wide 0 P gf (#[.func (.yield (w.heap.size + 1)) #[] #[]] ++ lb) W1 fun e W' => (∃ v, e = .returned v) ∧ ((Dn W' ∧ Bk w.heap.size r0 W') ∨ ∃ c, Xn c W' ∧ Bk w.heap.size (rc c) W'))
    (hdone : ∀ (r : Loop) (W : World) (o : Loop), Dn W → Bk w.heap.size r W → Q .normal { a with defers := { target := .collected w.heap.size, args := #[] } :: a.defers } (W.putObj (w.heap.size + 1) (.loop o)))
    (hstop : ∀ (r : Loop) (c : Code) (W : World) (o : Loop), Xn c W → Bk w.heap.size r W → c.wp P Q { a with defers := { target := .collected w.heap.size, args := #[] } :: a.defers } (W.putObj (w.heap.size + 1) (.loop o))) :
    (Code.rangeFunc g ps assign body).wp P Q a w := by
  refine (wpIn_wide (n := 0)).1 ?_
  refine wpIn_rangeFunc ?_
  intro fn hfn
  obtain ⟨rec, hrec⟩ : ∃ rec : LoopState → Option Code → Loop, rec = fun st pe => { state := st, pending := pe, fn, tmps := a.tmps, params := ps, assign, body, defers := w.heap.size } := ⟨_, rfl⟩
  obtain ⟨W1, hW1⟩ : ∃ W1, (w.alloc (.deferred (some []))).alloc (.loop (rec .ready none)) = W1 := ⟨_, rfl⟩
  have hL1 : W1.heap[w.heap.size + 1]? = some (.loop (rec .ready none)) := by
    rw [← hW1]; have := World.alloc_heap_new (w.alloc (.deferred (some []))) (.loop (rec .ready none)); rwa [World.size_alloc] at this
  have hK1 : W1.heap[w.heap.size]? = some (.deferred (some [])) := by
    rw [← hW1]; exact (Below.heap_alloc _ _ _ (by simp)).trans (World.alloc_heap_new w _)
  have hg1 : w.grownBy W1 none := by
    rw [← hW1]; exact grown_same (World.grownBy_alloc w _ none) (World.grownBy_alloc _ _ none)
  have hs1 : W1.heap.size = w.heap.size + 2 := by rw [← hW1]; simp
  have hw : Fence.wide.round = none := rfl
  refine ⟨w.heap.size + 1, [{ target := .collected w.heap.size, args := #[] }], W1, { target := .fn (.func gf) lb, args := #[.func (.yield (w.heap.size + 1)) #[] #[]] }, W1, gf,
    #[.func (.yield (w.heap.size + 1)) #[] #[]] ++ lb, W1, ?_, ?_, ?_, ?_, fun h => by simp [Fence.wide] at h, ?_⟩
  · rw [← hW1, hrec, hw]; exact run_enterLoop_outer _ _ _ _ _
  · simp only [resolve, hg]
    simp [go_sem]
  · intro f' hf'; trivial
  · simp [invoke, go_sem, eg]
  · refine (hiter (rec .ready none) (fun c => rec .done (some c)) W1 hg1 hs1 ⟨hL1, hK1⟩ ?_).mono ?_
    · rintro s x W hi hb
      have hl := hb.l
      have hk := hb.d
      have hlt := hb.lt
      have hy := run_yield (P := P) (args := encs x) hl (by rw [hrec]; exact hps x)
      rw [hrec] at hy
      refine ⟨fn, _, assign, body, hy, roundIn_of_wpIn hfn (hassign x W _ ?_)⟩
      clear hy
      refine ⟨_, run_beginRound hl (by rw [hrec]), ?_⟩
      have hl2 : (W.putObj (w.heap.size + 1) (.loop { rec .ready none with state := .busy })).heap[w.heap.size + 1]? = some (.loop { rec .ready none with state := .busy }) := World.putObj_heap_same hlt
      have hk2 : (W.putObj (w.heap.size + 1) (.loop { rec .ready none with state := .busy })).heap[w.heap.size]? = some (.deferred (some [])) := (World.putObj_heap_other (by omega)).trans hk
      refine wpIn_mono (hbody s x _ (by simpa using hlt) (hI s x _ _ _ hi hl)) ?_
      have fin : ∀ (jump : Option Code) (W3 : World), Kp2 w.heap.size (W.putObj (w.heap.size + 1) (.loop { rec .ready none with state := .busy })) W3 →
          (Instr.endRound (w.heap.size + 1) jump).run P W3 = .ok (.bool jump.isNone) (W3.putObj (w.heap.size + 1) (.loop (rec (if jump.isNone then .ready else .done) jump))) ∧
          W3.heap[w.heap.size + 1]? = some (.loop { rec .ready none with state := .busy }) ∧
          Bk w.heap.size (rec (if jump.isNone then .ready else .done) jump) (W3.putObj (w.heap.size + 1) (.loop (rec (if jump.isNone then .ready else .done) jump))) := fun jump W3 hk3 => by
        have hl3 := hk3.2.trans hl2
        have := run_endRound (P := P) jump hl3
        rw [hrec] at this ⊢
        exact ⟨this, by rw [hrec] at hl3; exact hl3, World.putObj_heap_same (Array.getElem?_eq_some_iff.1 hl3).1, (World.putObj_heap_other (by omega)).trans (hk3.1.trans hk2)⟩
      rintro e a3 W3 hp
      cases e with
      | normal =>
        obtain ⟨hk3, ho3⟩ := hp
        obtain ⟨hr, hl3, hb4⟩ := fin none W3 hk3
        exact ⟨_, _, hr, .inl ⟨rfl, hO s x _ _ _ ho3 hl3, hb4⟩⟩
      | ret =>
        obtain ⟨hk3, ho3⟩ := hp
        obtain ⟨hr, hl3, hb4⟩ := fin (some .ret) W3 hk3
        exact ⟨_, _, hr, .inr ⟨rfl, .ret, hX s x _ _ _ _ ho3 hl3, hb4⟩⟩
      | exit id =>
        obtain ⟨hk3, ho3⟩ := hp
        obtain ⟨hr, hl3, hb4⟩ := fin (some (.exit id)) W3 hk3
        exact ⟨_, _, hr, .inr ⟨rfl, .exit id, hX s x _ _ _ _ ho3 hl3, hb4⟩⟩
      | goto t =>
        obtain ⟨hk3, ho3⟩ := hp
        obtain ⟨hr, hl3, hb4⟩ := fin (some (.goto t)) W3 hk3
        exact ⟨_, _, hr, .inr ⟨rfl, .goto t, hX s x _ _ _ _ ho3 hl3, hb4⟩⟩
      | panic ch => exact hp.elim
      | outgrown => exact hp.elim
    · rintro e W2 ⟨⟨v, rfl⟩, (⟨hD, hb⟩ | ⟨c, hx, hb⟩)⟩
      · exact ⟨none, _, by have := run_endLoop (P := P) hb.l (by rw [hrec]; simp); rw [hrec] at this; exact this, hdone _ _ _ hD hb⟩
      · exact ⟨some c, _, by have := run_endLoop (P := P) hb.l (by rw [hrec]; simp); rw [hrec] at this; exact this, wpIn_wide.2 (hstop _ c _ _ hx hb)⟩

/-! What is said of cells does not mind the turns of the loop's record. -/
theorem cell_put {W : World} {a : Addr} {v : Value} {l : Nat} {o : Obj} (h : W.cell? a = some v) (hl : W.heap[l]? = some o) (ho : o.isCells = false) (o' : Obj) : (W.putObj l o').cell? a = some v :=
  cell_kept h (grownBy_putObj' W l o') (fun r e => by cases e; exact ⟨_, hl, ho⟩)
theorem frozen_put {W : World} {a : Addr} {v : Value} {l : Nat} {o : Obj} (h : W.cell? a = some v) (hl : W.heap[l]? = some o) (ho : o.isCells = false) (o' : Obj) : (W.putObj l o').frozen? a = W.frozen? a :=
  frozen_kept h (grownBy_putObj' W l o') (fun r e => by cases e; exact ⟨_, hl, ho⟩)
theorem Sl.put {k : IntKind} {W : World} {v : Value} {xs : List Int} (h : Sl k W v xs) {l : Nat} {o : Obj} (hl : W.heap[l]? = some o) (ho : o.isCells = false) (o' : Obj) : Sl k (W.putObj l o') v xs := by
  obtain ⟨a, cap, rfl, hc⟩ := h
  refine ⟨a, cap, rfl, fun hne => ?_⟩
  obtain ⟨b, off, rfl, hlt, hcell⟩ := hc hne
  exact ⟨b, off, rfl, by simpa using hlt, fun i hi => cell_put (hcell i hi) hl ho o'⟩
theorem Ow.put {k : IntKind} {t base : Nat} {W : World} {v : Value} {ys : List Int} (h : Ow k t base W v ys) {l : Nat} {o : Obj} (hl : W.heap[l]? = some o) (ho : o.isCells = false) (o' : Obj) : Ow k t base (W.putObj l o') v ys :=
  ownsRow_putObj h o' hl ho
theorem below_put {n : Nat} {A W : World} (h : Below n A W) {l : Nat} {o : Obj} (hl : W.heap[l]? = some o) (hn : n ≤ l) (o' : Obj) : Below n A (W.putObj l o') := by
  refine h.grown (grownBy_putObj' W l o') (by have := (Array.getElem?_eq_some_iff.1 hl).1; omega) ?_
  intro k e; cases e; exact hn
/-- A function's end behind a range over a function: the mark is taken up. -/
theorem leaves_mark {P : Program} {fn : Func} {tmps : Array Value} {R : Ending → World → Prop} {D : Nat} {W : World} (hd : W.heap[D]? = some (.deferred (some [])))
    (h : LeavesInM Fence.wide 0 P fn tmps R [] .returning (W.putObj D (.deferred none))) :
    LeavesInM Fence.wide 0 P fn tmps R [{ target := .collected D, args := #[] }] .returning W :=
  ⟨by simp, .inl ⟨_, _, rfl, run_takeDeferred hd, h⟩⟩
theorem calls_of_marks {P : Program} {f : FuncId} {fn : Func} {c : Code} {args : Array Value} {w : World} {R : Ending → World → Prop}
    (hf : P.funcs[f]? = some fn) (hb : fn.body = some c)
    (h : c.wp P (bodyPostM Fence.wide 0 P fn R) { tmps := args ++ Array.replicate (fn.ntmps - args.size) undef, defers := [] } w) : Calls P f args w R :=
  (callsIn_wide (n := 0)).1 (callsIn_of_wp_marks hf hb trivial (wpIn_wide.2 h))
end Go.Proofs.YthecfboplfmdmaaDoor.RngF
