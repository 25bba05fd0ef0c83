/- Appending what any slice of numbers holds, empty or not, to a slice that is the call's own; lists that lie below a block; owned lists of numbers. -/
import Derived.Test.YtodfkicmmcfkaaaSli
import Derived.Deep.AppendLies
namespace Go.Proofs.Ytodfkicmmcfkaaa.App
open Go.ChangeShapes Go.WideShapes Go.ChangeAt Go.RowKit Go.Proofs.Ytodfkicmmcfkaaa.Num Go.Proofs.Ytodfkicmmcfkaaa.Sli

/-- The value v is a slice that holds the numbers xs, in a block below B. -/
def Sb (k : IntKind) (B : Nat) (w : World) (v : Value) (xs : List Int) : Prop :=
  ∃ a cap, v = .slice a xs.length cap ∧ (xs ≠ [] → ∃ b off, a = some ⟨b, off, none⟩ ∧ b < B ∧ ∀ i, i < xs.length → w.cell? ⟨b, off + i, none⟩ = some (.int k (xs.getD i 0)))
theorem Sb.of {k : IntKind} {w : World} {v : Value} {xs : List Int} (h : Sl k w v xs) : Sb k w.heap.size w v xs := h
theorem Sb.keep {k : IntKind} {B : Nat} {w w' : World} {v : Value} {xs : List Int} (h : Sb k B w v xs) (hb : Below B w w') : Sb k B w' v xs := by
  obtain ⟨a, cap, rfl, hc⟩ := h
  refine ⟨a, cap, rfl, fun hne => ?_⟩
  obtain ⟨b, off, rfl, hlt, hcell⟩ := hc hne
  exact ⟨b, off, rfl, hlt, fun i hi => (hb.cell (p := ⟨b, off + i, none⟩) hlt).trans (hcell i hi)⟩
theorem Sb.sl {k : IntKind} {B : Nat} {w : World} {v : Value} {xs : List Int} (h : Sb k B w v xs) (hB : B ≤ w.heap.size) : Sl k w v xs := by
  obtain ⟨a, cap, rfl, hc⟩ := h
  refine ⟨a, cap, rfl, fun hne => ?_⟩
  obtain ⟨b, off, rfl, hlt, hcell⟩ := hc hne
  exact ⟨b, off, rfl, by omega, hcell⟩

/-- The value v is a slice of the call's own, from block base on, that holds the numbers ys (t: the element's type). -/
def Ow (k : IntKind) (t base : Nat) (w : World) (v : Value) (ys : List Int) : Prop :=
  w.ownsRow base t 1 v ys.length (ys.map (Value.int k))
theorem Ow.sl {k : IntKind} {t base : Nat} {w : World} {v : Value} {ys : List Int} (h : Ow k t base w v ys) : Sl k w v ys := (sl_of_own h).1
theorem Ow.kept {k : IntKind} {t base : Nat} {w w' : World} {v : Value} {ys : List Int} {row : Option Nat} (h : Ow k t base w v ys) (hg : w.grownBy w' row) (hr : ∀ j, row = some j → j < base) : Ow k t base w' v ys := by
  have h' : w.ownsRow base t 1 v ys.length (ys.map (Value.int k)) := h
  refine h'.kept hg ?_
  cases hv : v.ownBlock with
  | none => exact Or.inl rfl
  | some j =>
    right
    intro e
    have := (h'.lt j hv).1
    have := hr j e.symm
    omega
theorem Ow.later {k : IntKind} {t base : Nat} {w w' : World} {v : Value} {ys : List Int} (h : Ow k t base w v ys) (hb : Below w.heap.size w w') : Ow k t base w' v ys := by
  have h' : w.ownsRow base t 1 v ys.length (ys.map (Value.int k)) := h
  exact h'.kept (row := none) ⟨hb.os, hb.tape, hb.output, hb.size, fun j hj _ => hb.block j hj⟩ (by cases v.ownBlock <;> simp)
theorem Ow.block {k : IntKind} {t base : Nat} {w : World} {v : Value} {ys : List Int} (h : Ow k t base w v ys) : ∀ j, v.ownBlock = some j → base ≤ j ∧ j < w.heap.size := by
  have h' : w.ownsRow base t 1 v ys.length (ys.map (Value.int k)) := h
  exact h'.lt
theorem Ow.mono {k : IntKind} {t base base' : Nat} {w : World} {v : Value} {ys : List Int} (h : Ow k t base w v ys) (hb : base' ≤ base) : Ow k t base' w v ys :=
  ⟨h.1, h.2.imp id fun ⟨g, cap, cur, hv, hg, hr⟩ => ⟨g, cap, cur, hv, Nat.le_trans hb hg, hr⟩⟩
theorem Ow.alloc {k : IntKind} {t base : Nat} {w : World} {v : Value} {ys : List Int} (h : Ow k t base w v ys) (o : Obj) : Ow k t base (w.alloc o) v ys := h.later (bmore (Below.refl _ _) o)

theorem below_of_grown {w w' : World} {row : Option Nat} {B : Nat} (hg : w.grownBy w' row) (hB : B ≤ w.heap.size) (hr : ∀ j, row = some j → B ≤ j) : Below B w w' := (Below.refl _ _).grown hg hB hr

theorem run_append_zero {P : Program} (w : World) (t ty e : TypeId) (i : TypeInfo) (ht : P.underlying t = some (.slice e)) (hi : P.info? e = some i) (ad : Addr) (n cap : Nat) (hle : n ≤ cap) (a : Option Addr) (c : Nat) :
    (Builtin.append_ #[t, t] ty #[.slice (some ad) n cap, .slice a 0 c]).run P w = .ok (.slice (some ad) n cap) w := by
  cases a <;> simp [Builtin.append_, run_underlying ht, sizeOf, typeInfo, hi, Builtin.lenOf, Builtin.firstCells, loadCells, loadCellsFrom, hle, storeCells]

theorem wpList_append_sl {P : Program} (w : World) {ops : Array Oper} {rest : List Oper} {o : Oper} {a : Act} {Q : Exit → Act → World → Prop} (hgd : o.guard = none) (s x : Operand) (t : TypeId)
    (ho : o.op = .call { callee := .builtin .append, args := #[s, x], argTypes := #[t, t] })
    (base : Nat) (e : TypeId) (i : TypeInfo) (k : IntKind) (z : Int) (bytes : Nat) (ht : P.underlying t = some (.slice e)) (hi : P.info? e = some i) (hz : i.zero = some (.int k z))
    (hsize : i.size = 1) (hby : i.bytes = bytes) (hb8 : bytes ≤ 8)
    (g0 n cap0 : Nat) (ys : List Int) (hs : a.eval s = .slice (some ⟨g0, 0, none⟩) n cap0) (hn : n = ys.length) (hown : Ow k e base w (.slice (some ⟨g0, 0, none⟩) ys.length cap0) ys)
    (vx : Value) (xs : List Int) (hx : a.eval x = vx) (hsl : Sl k w vx xs) (hlen : ys.length + xs.length ≤ 10000000) (hbase : base ≤ w.heap.size)
    (h : ∀ g cap w', Ow k e base w' (.slice (some ⟨g, 0, none⟩) (ys.length + xs.length) cap) (ys ++ xs) → w.grownBy w' (some g0) → g < w'.heap.size → wpList P ops Q rest (a.put o.dst (.slice (some ⟨g, 0, none⟩) (ys.length + xs.length) cap)) w') : wpList P ops Q (o :: rest) a w := by
  subst hn
  obtain ⟨ax, cx, rfl, hc⟩ := hsl
  by_cases hne : xs = []
  · subst hne
    refine wpList_plain hgd fun K hK => ?_
    have hle : ys.length ≤ cap0 := by
      rcases hown.2 with ⟨hv, _⟩ | ⟨g', cap', cur, hv, _, _, hr, _⟩
      · cases hv
      · simp at hv; omega
    have hx' : a.eval x = .slice ax 0 cx := hx
    have hrun := run_append_zero (P := P) w t o.type e i ht hi ⟨g0, 0, none⟩ ys.length cap0 hle ax cx
    have hlt := (hown.block g0 rfl).2
    have := h g0 cap0 w (by simpa using hown) ⟨rfl, rfl, rfl, Nat.le_refl _, fun _ _ _ => rfl⟩ hlt
    unfold Oper.wp
    simp [execOp, ho, resolve, invoke, builtin, hs, hx', hrun, Result.andThen]
    exact hK _ _ (by simpa using this)
  · obtain ⟨b, off, rfl, hlt, hcell⟩ := hc hne
    have hpos : 0 < xs.length := by cases xs with | nil => exact absurd rfl hne | cons _ _ => simp
    have hown' : w.ownsRow base e 1 (.slice (some ⟨g0, 0, none⟩) ys.length cap0) ys.length (ys.map (Value.int k)) := hown
    refine wpList_append_lies w hgd s x t ho base e i (.int k z) 1 bytes ht hi hz hsize hby rfl (by decide) _ ys.length _ hs hown' ⟨b, off, none⟩ xs.length cx (xs.map (Value.int k)) hx (by simp) ?_ ?_ hpos ?_ ?_ hbase _ rfl ?_
    · intro j u hj
      rw [List.getElem?_map] at hj
      rcases hxj : xs[j]? with _ | y
      · rw [hxj] at hj; cases hj
      · rw [hxj] at hj; simp at hj; subst hj
        have hjl : j < xs.length := by rcases Nat.lt_or_ge j xs.length with h1 | h1; exact h1; rw [List.getElem?_eq_none h1] at hxj; cases hxj
        have hc1 := hcell j hjl
        have e1 : xs.getD j 0 = y := by rw [List.getD_eq_getElem?_getD, hxj, Option.getD_some]
        rw [e1] at hc1
        have e2 : (⟨b, off, none⟩ : Addr).add j = ⟨b, off + j, none⟩ := by
          by_cases hj0 : j = 0
          · subst hj0; simp [Addr.add]
          · simp [Addr.add, hj0]
        rw [e2]; exact hc1
    · intro u hu
      simp at hu
      obtain ⟨y, _, rfl⟩ := hu
      rfl
    · unfold maxLen; omega
    · calc (ys.length + xs.length) * bytes ≤ 10000000 * 8 := Nat.mul_le_mul hlen hb8
        _ ≤ _ := by omega
    · intro g cap w' h1 h2 _ h4
      refine h g cap w' ?_ h2 h4
      unfold Ow
      rw [List.map_append, List.length_append]
      exact h1

/-- A new empty slice. -/
theorem ow_new (k : IntKind) (t base : Nat) (w : World) (hb : base ≤ w.heap.size) : Ow k t base (w.alloc (.cells #[] t)) (.slice (some ⟨w.heap.size, 0, none⟩) 0 0) [] :=
  ⟨rfl, Or.inr ⟨w.heap.size, 0, #[], rfl, hb, heap_alloc_new w _, Nat.le_refl _, by unfold maxLen; omega, rfl, rfl⟩⟩
/-- The values that are written out in a block of their own. -/
theorem sl_lit (k : IntKind) (w : World) (t : TypeId) (xs : List Int) (cs : Array Value) (n : Nat) (hcs : cs = (xs.map (Value.int k)).toArray) (hn : xs.length = n) : Sl k (w.alloc (.cells cs t)) (.slice (some ⟨w.heap.size, 0, none⟩) n n) xs := by
  subst hcs hn
  refine ⟨some ⟨w.heap.size, 0, none⟩, xs.length, rfl, fun _ => ⟨w.heap.size, 0, rfl, by simp, fun i hi => ?_⟩⟩
  rw [cell_of_row _ w.heap.size (0 + i) _ t (0, 0) (heap_alloc_new w _)]
  simp [hi]
theorem Ow.cellAt {k : IntKind} {t base : Nat} {w : World} {g cap n : Nat} {ys : List Int} (h : Ow k t base w (.slice (some ⟨g, 0, none⟩) n cap) ys) (hn : n = ys.length) (i : Nat) (hi : i < ys.length) : w.cell? ⟨g, i, none⟩ = some (.int k (ys.getD i 0)) ∧ w.frozen? ⟨g, i, none⟩ = false := by
  subst hn
  have h' : w.ownsRow base t 1 (.slice (some ⟨g, 0, none⟩) ys.length cap) ys.length (ys.map (Value.int k)) := h
  refine ⟨?_, h'.frozenAt i⟩
  rw [h'.cellAt i (by omega)]
  simp [hi]
theorem Ow.set {k : IntKind} {t base : Nat} {w : World} {g cap n : Nat} {ys : List Int} (h : Ow k t base w (.slice (some ⟨g, 0, none⟩) n cap) ys) (hn : n = ys.length) (i : Nat) (x : Int) : Ow k t base (w.setCell ⟨g, i, none⟩ (.int k x)) (.slice (some ⟨g, 0, none⟩) n cap) (ys.set i x) ∧ w.grownBy (w.setCell ⟨g, i, none⟩ (.int k x)) (some g) := by
  subst hn
  have h' : w.ownsRow base t 1 (.slice (some ⟨g, 0, none⟩) ys.length cap) ys.length (ys.map (Value.int k)) := h
  have := h'.stored i (.int k x)
  refine ⟨?_, this.2⟩
  unfold Ow
  rw [List.length_set, List.map_set]
  exact this.1
theorem grown_refl (w : World) (r : Option Nat) : w.grownBy w r := ⟨rfl, rfl, rfl, Nat.le_refl _, fun _ _ _ => rfl⟩
theorem grown_same {w a b : World} {r : Option Nat} (h : w.grownBy a r) (k : a.grownBy b r) : w.grownBy b r :=
  ⟨k.os.trans h.os, k.tape.trans h.tape, k.output.trans h.output, Nat.le_trans h.size k.size, fun j hj hne => (k.block j (Nat.lt_of_lt_of_le hj h.size) hne).trans (h.block j hj hne)⟩
/-- A slice that is no longer than its room. -/
def Fits : Value → Prop
  | .slice _ n c => n ≤ c
  | _ => True
theorem Ow.fits {k : IntKind} {t base : Nat} {w : World} {v : Value} {ys : List Int} (h : Ow k t base w v ys) : Fits v := by
  rcases h.2 with ⟨rfl, _⟩ | ⟨g, cap, cur, rfl, _, _, hr, _⟩
  · exact Nat.le_refl _
  · exact hr
theorem grown_set (w : World) (R o : Nat) (u : Value) : w.grownBy (w.setCell ⟨R, o, none⟩ u) (some R) :=
  ⟨rfl, rfl, rfl, by simp [World.setCell], fun _ _ hne => Below.heap_setCell _ _ _ _ (fun e => hne (by rw [e]))⟩
/-- Behind an answer that is stored into block R, the first of the call's own. -/
theorem Ow.set2 {k : IntKind} {t R : Nat} {w : World} {v : Value} {ys : List Int} (h : Ow k t (R + 1) w v ys) (x y : Value) : Ow k t R ((w.setCell ⟨R, 0, none⟩ x).setCell ⟨R, 1, none⟩ y) v ys :=
  ((h.kept (grown_set w R 0 x) (fun j e => by cases e; omega)).kept (grown_set _ R 1 y) (fun j e => by cases e; omega)).mono (by omega)
theorem below_set2 {R : Nat} {a w : World} (h : Below R a w) (x y : Value) : Below R a ((w.setCell ⟨R, 0, none⟩ x).setCell ⟨R, 1, none⟩ y) :=
  (h.setCell (p := ⟨R, 0, none⟩) (Nat.le_refl _) _).setCell (p := ⟨R, 1, none⟩) (Nat.le_refl _) _
end Go.Proofs.Ytodfkicmmcfkaaa.App
