/- The program's ladder: a map of steps by their rungs, made anew in each call; steps, halves of steps, what is nearest in steps, back, and the finest rung of a list. Conditions: lists of at most 1048576 numbers. -/
import Derived.Test.YtnmjmknhlpmkoaaLadF
import Derived.Test.YtnmjmknhlpmkoaaSli
import Derived.Test.YtnmjmknhlpmkoaaDiv
import Derived.Test.YtnmjmknhlpmkoaaBkI
import Derived.Test.YtnmjmknhlpmkoaaBlk
import Derived.Test.YtnmjmknhlpmkoaaApp
import Derived.Maps.OwnSet
import Derived.Maps.OwnOps
import Derived.Maps.Views
namespace Go.Proofs.Ytnmjmknhlpmkoaa.LadI
open Go.ChangeShapes Go.WideShapes Go.ChangeAt Go.RowKit Go.Maps Go.MapKept Go.Proofs.Ytnmjmknhlpmkoaa.Num Go.Proofs.Ytnmjmknhlpmkoaa.Sli Go.Proofs.Ytnmjmknhlpmkoaa.HalM Go.Proofs.Ytnmjmknhlpmkoaa.BkI Go.Proofs.Ytnmjmknhlpmkoaa.LadM Go.Proofs.Ytnmjmknhlpmkoaa.Blk Go.Proofs.Ytnmjmknhlpmkoaa.App Go.Proofs.Ytnmjmknhlpmkoaa.Div Go.Proofs.Ytnmjmknhlpmkoaa.LadF

/-- What the map reads as when its first n rungs are laid. -/
abbrev DU := DataW Unit
def kI (r : Int) : Lit := .int .i64 r
def vI (r : Int) : DU := .lit (.int .i64 r)
def inN (n : Nat) (r : Int) : Bool := inB 0 ((n : Int) - 1) r
def stO (n : Nat) (r : Int) : Int := if inN n r = true then stV r else 0
def LD (n : Nat) (D : DU) : Prop := IsMap D ∧ (∀ r, D.atKey (kI r) (vI 0) = vI (stO n r)) ∧ ∀ r, has D (kI r) = inN n r
theorem kI_ne {a b : Int} (h : a ≠ b) : kI a ≠ kI b := fun e => h (by cases e; rfl)
theorem ld_zero : LD 0 (.map [] : DU) := by
  have h0 : ∀ r, inN 0 r = false := fun r => inB_no (by omega)
  refine ⟨isMap_empty, fun r => ?_, fun r => ?_⟩
  · unfold stO; rw [if_neg (by rw [h0]; decide)]; rfl
  · rw [h0]; rfl
theorem in_succ (n : Nat) (r : Int) : inN (n + 1) r = (inN n r || decide (r = (n : Int))) := by
  unfold inN inB
  by_cases h : r = (n : Int)
  · rw [decide_eq_true h, decide_eq_true (by omega)]; simp
  · rw [decide_eq_false h, Bool.or_false]
    by_cases h2 : 0 ≤ r ∧ r ≤ (n : Int) - 1
    · rw [decide_eq_true h2, decide_eq_true (by omega)]
    · rw [decide_eq_false h2, decide_eq_false (by omega)]
theorem LD.put {n : Nat} {D : DU} (h : LD n D) {x : Int} (hx : x = stV (n : Int)) : LD (n + 1) (D.put (kI n) (vI x)) := by
  obtain ⟨h1, h2, h3⟩ := h
  subst hx
  refine ⟨h1.put _ _, fun r => ?_, fun r => ?_⟩
  · by_cases e : r = (n : Int)
    · subst e
      rw [atKey_put_same h1 (k := kI n) (show WideAt.IsKeyLit (.int .i64 _) from trivial)]
      unfold stO
      rw [in_succ, decide_eq_true rfl, Bool.or_true, if_pos rfl]
    · rw [atKey_put_other (kI_ne e), h2]
      unfold stO
      rw [in_succ, decide_eq_false e, Bool.or_false]
  · by_cases e : r = (n : Int)
    · subst e
      rw [has_put_same h1 (k := kI n) (show WideAt.IsKeyLit (.int .i64 _) from trivial), in_succ, decide_eq_true rfl, Bool.or_true]
    · rw [has_put_other (kI_ne e), h3, in_succ, decide_eq_false e, Bool.or_false]
theorem st_two : ∀ k, k < 48 → 3 ≤ k → 2 * stN (k - 2) = stN k := by decide +kernel
theorem st_double {k : Nat} (h : k < 48) (h3 : 3 ≤ k) : 2 * stO k ((k : Int) - 2) = stV (k : Int) ∧ 0 ≤ stO k ((k : Int) - 2) ∧ stO k ((k : Int) - 2) ≤ 16777216 := by
  have e := st_two k h h3
  have hb := st_all (k - 2) (by omega)
  have e1 : stO k ((k : Int) - 2) = (stN (k - 2) : Int) := by
    unfold stO
    rw [if_pos (show inN k ((k : Int) - 2) = true from inB_yes (by omega) (by omega))]
    unfold stV
    rw [show ((k : Int) - 2).toNat = k - 2 by omega]
  have e2 : stV (k : Int) = (stN k : Int) := rfl
  rw [e1, e2]; omega
theorem inN_rg (r : Int) : inN 48 r = rgB r := rfl
theorem stO_so (r : Int) : stO 48 r = soV r := rfl

theorem lawK : Keyed Try.prog 2 := int_keyed Try.underlying2
theorem zeroE (w : World) : (zeroValue 38).run Try.prog w = .ok (.int .i64 0) w := by kernel_rfl
theorem make_map (h : Value) (hh : h = .int .i64 48) (W : World) : (Instr.makeMap 49 (some h)).run Try.prog W = .ok (.map (some W.heap.size)) (W.alloc (.map #[] 0)) := by
  subst hh
  simp [Instr.makeMap, run_underlying Try.underlying49, asInt, Result.andThen, newObj]
  rfl
/-- A map that holds the first n rungs' steps. -/
def LW (n : Nat) (w : World) (b : Nat) : Prop := ∃ D : DU, w.ownsMap Try.prog 2 (plainElem Try.prog 38) b n D ∧ LD n D
theorem LW.new (w : World) : LW 0 (w.alloc (.map #[] 0)) w.heap.size := ⟨_, World.ownsMap_made _ _ _ _, ld_zero⟩
theorem LW.lt {n : Nat} {w : World} {b : Nat} (h : LW n w b) : b < w.heap.size := by obtain ⟨_, h, _⟩ := h; exact h.lt
theorem LW.kept {n : Nat} {w w' : World} {b : Nat} {row : Option Nat} (h : LW n w b) (hg : w.grownBy w' row) (hne : some b ≠ row) : LW n w' b := by
  obtain ⟨D, h, hd⟩ := h; exact ⟨D, h.kept hg hne, hd⟩
theorem LW.later {n : Nat} {w w' : World} {b : Nat} (h : LW n w b) (hb : Below w.heap.size w w') : LW n w' b := by
  have hlt := h.lt
  obtain ⟨D, ⟨es, clock, e1, F, hs, hD⟩, hd⟩ := h
  exact ⟨D, ⟨es, clock, (hb.block b hlt).trans e1, F, hs, hD⟩, hd⟩
/-- What is looked up. -/
theorem LW.look {n : Nat} {w : World} {b : Nat} (h : LW n w b) (h48 : n ≤ 48) (r : Int) (c : Bool) :
    (Instr.lookup 49 (.map (some b)) (.int .i64 r) c).run Try.prog w = .ok (if c then .tuple #[.int .i64 (stO n r), .bool (inN n r)] else .int .i64 (stO n r)) w := by
  obtain ⟨D, hown, h1, h2, h3⟩ := h
  by_cases hw : (Lit.int .i64 r).wf = true
  · have hkey : keyOf Try.prog 2 (.int .i64 r) = some (kI r) := keyOf_int_mk Try.underlying2 hw
    cases c
    · obtain ⟨c0, hrun, hat, _⟩ := hown.lookup_int lawK Try.underlying49 Try.underlying38 (zeroE w) hkey
      have e : c0 = stO n r := by
        have := hat.symm.trans (h2 r)
        cases this; rfl
      rw [hrun, e]; rfl
    · obtain ⟨v, ps, hrun, hv⟩ := hown.look_ok lawK Try.underlying49 (zeroE w) (plainElem_int Try.underlying38 (a := 0) (by decide)) hkey
      obtain ⟨c0, rfl, hc, _⟩ := plainElem_int_inv Try.underlying38 hv
      have e : c0 = stO n r := by
        have := (congrArg Prod.fst hc).symm.trans (h2 r)
        cases this; rfl
      rw [hrun, e, h3]; rfl
  · have hn : inN n r = false := by
      cases q : inN n r
      · rfl
      · exfalso
        have := of_inB q
        exact hw (WalkArith.wf_i64 (by omega))
    have hz : stO n r = 0 := by unfold stO; rw [if_neg (by rw [hn]; decide)]
    obtain ⟨es, clock, hb, F, hs, hD⟩ := hown
    have hks : ∀ y ∈ es.toList, IsKey (.int .i64) y.key := fun y hy => by
      obtain ⟨l, hl⟩ := F.keys y hy
      have hl2 : mapKey Try.prog 2 y.key = some l := by
        have := hl; simp [keyOf, Try.underlying2] at this; exact this
      obtain ⟨d', hd', g1, _⟩ := mapKey_isKey hl2
      rw [Try.underlying2] at hd'
      cases hd'
      exact g1
    have hnone : (Instr.findKey 2 (.int .i64 r) es.toList).run Try.prog w = .ok none w := by
      rcases findNow_spec (d := .int .i64) (k := .int .i64 r) rfl es.toList 0 hks with ⟨g1, _⟩ | ⟨j, e0, _, g2, g3⟩
      · exact run_findKey Try.underlying2 g1
      · exfalso
        obtain ⟨l, hl⟩ := F.keys e0 (List.mem_of_getElem? g2)
        rw [g3] at hl
        simp [keyOf, Try.underlying2, mapKey] at hl
        exact hw hl.1
    have hchk : ∀ em, (Instr.checkKey em 10000 2 (.int .i64 r)).run Try.prog w = .ok () w := fun em => run_checkKey (d := .int .i64) (k := .int .i64 r) Try.underlying2 (show IsKey (.int .i64) (.int .i64 r) from rfl) em 9999
    rw [hz, hn]
    simp [Instr.lookup, run_underlying Try.underlying49, MapKept.run_getObj_map hb, hchk, hnone, Result.andThen]
theorem LW.look_ok {w : World} {b : Nat} (h : LW 48 w b) (r : Int) :
    (Instr.lookup 49 (.map (some b)) (.int .i64 r) true).run Try.prog w = .ok (.tuple #[.int .i64 (soV r), .bool (rgB r)]) w := h.look (by omega) r true
theorem LW.look_no {w : World} {b : Nat} (h : LW 48 w b) (r : Int) :
    (Instr.lookup 49 (.map (some b)) (.int .i64 r) false).run Try.prog w = .ok (.int .i64 (soV r)) w := h.look (by omega) r false
/-- A step that is laid. -/
theorem LW.put {n : Nat} {w : World} {b : Nat} (h : LW n w b) (h48 : n < 48) (x : Int) (hx : x = stV (n : Int)) :
    ∃ w', (Instr.mapUpdate 49 (.map (some b)) (.int .i64 (n : Int)) (.int .i64 x)).run Try.prog w = .ok () w' ∧ LW (n + 1) w' b ∧ w.grownBy w' (some b) := by
  obtain ⟨D, hown, hd⟩ := h
  have hb := st_all n h48
  have hxb : stV (n : Int) = (stN n : Int) := rfl
  obtain ⟨w', e, h1, h2⟩ := hown.update lawK Try.underlying49 (by unfold maxLen; omega) (key := .int .i64 (n : Int)) (val := .int .i64 x) (keyOf_int_mk Try.underlying2 (WalkArith.wf_i64 (by omega))) (plainElem_int Try.underlying38 (WalkArith.wf_i64 (by omega)))
  exact ⟨w', e, ⟨_, h1, hd.put hx⟩, h2⟩
/-- .. at the operation. -/
theorem wpList_put (w : World) {ops : Array Oper} {rest : List Oper} {o : Oper} {a : Act} {Q : Exit → Act → World → Prop}
    (hg : o.guard = none) (m x v : Operand) (hop : o.op = Op.mapUpdate 49 m x v) (b n : Nat) (k y : Int)
    (hm : a.eval m = .map (some b)) (hx : a.eval x = .int .i64 k) (hv : a.eval v = .int .i64 y) (h : LW n w b) (h48 : n < 48) (hk : k = (n : Int)) (hy : y = stV (n : Int))
    (hK : ∀ w', LW (n + 1) w' b → w.grownBy w' (some b) → wpList Try.prog ops Q rest (a.put o.dst undef) w') :
    wpList Try.prog ops Q (o :: rest) a w := by
  refine wpList_plain hg fun K' hK' => ?_
  subst hk
  obtain ⟨w', hrun, r1, r2⟩ := h.put h48 y hy
  unfold Oper.wp
  simp [execOp, hop, hm, hx, hv, hrun, Result.andThen]
  exact hK' _ _ (hK w' r1 r2)
set_option maxRecDepth 100000 in
theorem newLadder_calls (w : World) : Calls Try.prog 31 #[] w fun e w' => ∃ b, e = .returned (.map (some b)) ∧ LW 48 w' b ∧ w.heap.size ≤ b ∧ Below w.heap.size w w' := by
  have hmm := make_map
  have H0 := hid (LW.new w)
  have HB0 := hid ((Below.refl w.heap.size w).alloc (Nat.le_refl _) (.map #[] 0))
  go_enter Try.func31, Try.ntmps31
  go_wp2_with (first
    | (at_mapUpdate; refine wpList_put _ rfl _ _ _ rfl w.heap.size 0 0 1 rfl rfl rfl H0.out (by omega) rfl (by decide +kernel) ?_; intro w1 hL1 hg1)
    | (at_mapUpdate; refine wpList_put _ rfl _ _ _ rfl w.heap.size 1 1 2 rfl rfl rfl hL1 (by omega) rfl (by decide +kernel) ?_; intro w2 hL2 hg2)
    | (at_mapUpdate; refine wpList_put _ rfl _ _ _ rfl w.heap.size 2 2 3 rfl rfl rfl hL2 (by omega) rfl (by decide +kernel) ?_; intro w3 hL3 hg3))
  have HB3 : Hid (Below w.heap.size w w3) := by
    have g1 := HB0.out.grown hg1 (by simp) (fun j hj => by cases hj; exact Nat.le_refl _)
    have g2 := g1.grown hg2 g1.size (fun j hj => by cases hj; exact Nat.le_refl _)
    exact g2.grown hg3 g2.size (fun j hj => by cases hj; exact Nat.le_refl _)
  have HL3 := hid hL3
  clear hL1 hL2 hL3 hg1 hg2 hg3 H0 HB0 hmm
  go_loopw [2] (fun i wr => ∃ k : Nat, 3 ≤ k ∧ k ≤ 48 ∧ i = .int .i64 k ∧ Hid (LW k wr w.heap.size) ∧ Hid (Below w.heap.size w wr)) (fun i _ => 48 - (intOf i).toNat)
  case atStart => exact ⟨3, by omega, by omega, rfl, HL3, HB3⟩
  case round =>
    obtain ⟨k, hk3, hk, rfl, HL, HB⟩ := hrel
    by_cases hlt : k < 48
    · obtain ⟨e1, e2, e3⟩ := st_double hlt hk3
      have hk47 : (k : Int) ≤ 47 := by omega
      have hk3' : 3 ≤ (k : Int) := by omega
      have hlk := HL.out.look (by omega) ((k : Int) - 2) false
      have HE := hid e1
      clear e1
      generalize stO k ((k : Int) - 2) = x at *
      go_wp2_with (at_mapUpdate; refine wpList_put _ rfl _ _ _ rfl w.heap.size k _ _ rfl rfl rfl HL.out hlt rfl HE.out ?_; intro w4 hL4 hg4)
      go_roundw
      case rel => exact ⟨k + 1, by omega, by omega, by go_num, hL4, HB.out.grown hg4 HB.out.size (fun j hj => by cases hj; exact Nat.le_refl _)⟩
      case measure => simp [intOf]; omega
    · obtain rfl : k = 48 := by omega
      go_wp2
      go_ret
      exact ⟨w.heap.size, rfl, HL.out, Nat.le_refl _, HB.out⟩
/-- A new ladder, told of behind the answer's block. -/
theorem so_yes {r : Int} (h : rgB r = true) : soC r = 0 ∧ soV r = stV r := ⟨if_pos h, if_pos h⟩
theorem so_no {r : Int} (h : rgB r = false) : soC r = 3 ∧ soV r = 0 := ⟨if_neg (by rw [h]; decide), if_neg (by rw [h]; decide)⟩
/-- A new ladder behind the answer's block. -/
theorem newBehind_calls (w : World) : Calls Try.prog 31 #[] (w.alloc (.cells #[.int .i64 0, .int .i64 0] 27)) fun e w' => ∃ b, e = .returned (.map (some b)) ∧
    (∀ r : Int, (Instr.lookup 49 (.map (some b)) (.int .i64 r) true).run Try.prog w' = .ok (.tuple #[.int .i64 (soV r), .bool (rgB r)]) w') ∧ LW 48 w' b ∧
    Blk w' w.heap.size #[.int .i64 0, .int .i64 0] 27 ∧ Below w.heap.size w w' := by
  refine (newLadder_calls _).mono ?_
  rintro e w1 ⟨b, rfl, hL, hb1, hB⟩
  exact ⟨b, rfl, hL.look_ok, hL, (Blk.new w #[.int .i64 0, .int .i64 0] 27).later hB, bthen (bmore (Below.refl _ w) _) hB⟩
theorem implStepOf_calls (r : Int) (w : World) : Calls Try.prog 23 #[.int .i64 r] w fun e w' => e = .returned (.agg #[.int .i64 (soC r), .int .i64 (soV r)]) ∧ Below w.heap.size w w' := by
  have HN := hid (newBehind_calls w)
  cases h : rgB r
  · obtain ⟨e1, e2⟩ := so_no h
    have H : Hid (3 = soC r ∧ 0 = soV r) := ⟨e1.symm, e2.symm⟩
    go_enter Try.func23, Try.ntmps23
    go_wp2_with fail
    refine HN.out.mono ?_
    rintro e w1 ⟨b, rfl, hlk0, _, hK, hB⟩
    have hlk := hlk0 r
    rw [h] at hlk
    obtain ⟨c0, c1, f0, f1⟩ := hK.two
    have HB := hid (below_set2 hB (.int .i64 3) (.int .i64 0))
    clear hlk0 hK hB HN h
    go_wp2
    exact bodyPost_ret (v := .agg #[.int .i64 3, .int .i64 0]) (by simp [results, Try.results23, go_sem, c0, c1]) rfl ⟨ret_two H.out.1 H.out.2, HB.out⟩
  · obtain ⟨e1, e2⟩ := so_yes h
    have H : Hid (0 = soC r ∧ stV r = soV r) := ⟨e1.symm, e2.symm⟩
    go_enter Try.func23, Try.ntmps23
    go_wp2_with fail
    refine HN.out.mono ?_
    rintro e w1 ⟨b, rfl, hlk0, _, hK, hB⟩
    have hlk := hlk0 r
    rw [h, e2] at hlk
    obtain ⟨c0, c1, f0, f1⟩ := hK.two
    generalize stV r = sv at *
    have HB := hid (below_set2 hB (.int .i64 0) (.int .i64 sv))
    clear hlk0 hK hB HN h e2
    go_wp2
    exact bodyPost_ret (v := .agg #[.int .i64 0, .int .i64 sv]) (by simp [results, Try.results23, go_sem, c0, c1]) rfl ⟨ret_two H.out.1 H.out.2, HB.out⟩
end Go.Proofs.Ytnmjmknhlpmkoaa.LadI
