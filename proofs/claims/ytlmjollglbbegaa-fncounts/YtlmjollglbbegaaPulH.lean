/- The program's map of how many pulses there are: keys of two numbers, laid row by row, in each call anew; what it reads as. Conditions: one to four places, none to eight pulses. -/
import Derived.Test.YtlmjollglbbegaaPulM
import Derived.Test.YtlmjollglbbegaaSli
import Derived.Test.YtlmjollglbbegaaDiv
import Derived.Test.YtlmjollglbbegaaBlk
import Derived.Test.YtlmjollglbbegaaApp
import Derived.Maps.OwnSet
import Derived.Maps.OwnOps
import Derived.Maps.Views
import Derived.DeepKeys4
import Derived.BigRegion
import Derived.Deep.CutBlock
namespace Go.Proofs.Ytlmjollglbbegaa.PulH
open Go.ChangeShapes Go.WideShapes Go.ChangeAt Go.RowKit Go.Maps Go.MapKept Go.Proofs.Ytlmjollglbbegaa.Num Go.Proofs.Ytlmjollglbbegaa.Sli Go.Proofs.Ytlmjollglbbegaa.HalM Go.Proofs.Ytlmjollglbbegaa.PulM Go.Proofs.Ytlmjollglbbegaa.Blk Go.Proofs.Ytlmjollglbbegaa.App Go.Proofs.Ytlmjollglbbegaa.Div

/-- Keys and what they read as. -/
abbrev DU := DataW Unit
def kA (a b : Int) : Lit := .string (keyBytes [.int .i64 a, .int .i64 b])
def kV (a b : Int) : Value := .agg #[.int .i64 a, .int .i64 b]
def vI (r : Int) : DU := .lit (.int .i64 r)
def sm (x : Int) : Prop := -100 ≤ x ∧ x ≤ 100
theorem lawK : Keyed Try.prog 34 := Keyed.of_law (deep_law_laid (by kernel_rfl) (m := 3) (by omega) (of_decide_eq_true (by kernel_rfl)) (by kernel_rfl) (by kernel_rfl))
theorem key_of {a b : Int} (ha : sm a) (hb : sm b) : keyOf Try.prog 34 (kV a b) = some (kA a b) := by
  have h1 : Try.prog.keyType 34 = true := by kernel_rfl
  have h2 : Try.prog.cellsOf 34 = 2 := by kernel_rfl
  have h3 : Try.prog.cellsOf 32 = 1 := by kernel_rfl
  have h4 : 0 < Try.prog.types.size := of_decide_eq_true (by kernel_rfl)
  obtain ⟨d, hd⟩ : ∃ d, Try.prog.types.size = d + 1 := ⟨Try.prog.types.size - 1, by omega⟩
  have wa : (Lit.int .i64 a).wf = true := WalkArith.wf_i64 (by unfold sm at ha; omega)
  have wb : (Lit.int .i64 b).wf = true := WalkArith.wf_i64 (by unfold sm at hb; omega)
  unfold keyOf
  rw [Try.underlying34]
  have e : Try.prog.keyLits (Try.prog.types.size + 1) 34 [.int .i64 a, .int .i64 b] = some [.int .i64 a, .int .i64 b] := by
    rw [hd]
    simp [Program.keyLits, Try.underlying34, Try.underlying32, h2, h3, wa, wb, List.range_succ]
  have f : (kV a b).formed Try.prog 34 = true := by simp [kV, Value.formed, Try.underlying34, h2]
  show (if (Try.prog.keyType 34 && (kV a b).formed Try.prog 34) = true then _ else _) = _
  rw [h1, f]
  show (Try.prog.keyLits (Try.prog.types.size + 1) 34 [.int .i64 a, .int .i64 b]).map _ = _
  rw [e]; rfl
theorem kA_ne {a b x y : Int} (ha : sm a) (hb : sm b) (hx : sm x) (hy : sm y) (h : ¬ (x = a ∧ y = b)) : kA x y ≠ kA a b := fun e => h (by
  have h1 := key_of hx hy
  rw [e] at h1
  have := lawK.inj h1 (key_of ha hb)
  unfold kV at this
  cases this
  exact ⟨rfl, rfl⟩)
theorem zeroE (w : World) : (zeroValue 32).run Try.prog w = .ok (.int .i64 0) w := by kernel_rfl
/-- A map that reads as F. -/
def MW (F : Int → Int → Int) (n : Nat) (w : World) (b : Nat) : Prop :=
  ∃ D : DU, w.ownsMap Try.prog 34 (plainElem Try.prog 32) b n D ∧ IsMap D ∧ ∀ x y, sm x → sm y → D.atKey (kA x y) (vI 0) = vI (F x y)
theorem MW.new (w : World) : MW (fun _ _ => 0) 0 (w.alloc (.map #[] 0)) w.heap.size := ⟨_, World.ownsMap_made _ _ _ _, isMap_empty, fun _ _ _ _ => rfl⟩
theorem MW.lt {F : Int → Int → Int} {n : Nat} {w : World} {b : Nat} (h : MW F n w b) : b < w.heap.size := by obtain ⟨_, h, _⟩ := h; exact h.lt
theorem MW.kept {F : Int → Int → Int} {n : Nat} {w w' : World} {b : Nat} {row : Option Nat} (h : MW F n w b) (hg : w.grownBy w' row) (hne : some b ≠ row) : MW F n w' b := by
  obtain ⟨D, h, hd⟩ := h; exact ⟨D, h.kept hg hne, hd⟩
theorem MW.same {F : Int → Int → Int} {n : Nat} {w w' : World} {b : Nat} (h : MW F n w b) (hb : w'.heap[b]? = w.heap[b]?) : MW F n w' b := by
  obtain ⟨D, ⟨es, clock, e1, f, hs, hD⟩, hd⟩ := h
  exact ⟨D, ⟨es, clock, hb.trans e1, f, hs, hD⟩, hd⟩
theorem MW.later {F : Int → Int → Int} {n : Nat} {w w' : World} {b : Nat} (h : MW F n w b) (hb : Below w.heap.size w w') : MW F n w' b := h.same (hb.block b h.lt)
theorem MW.drew {F : Int → Int → Int} {n : Nat} {w : World} {b : Nat} (h : MW F n w b) : MW F n w.drew b := h
theorem MW.as {F G : Int → Int → Int} {n : Nat} {w : World} {b : Nat} (h : MW F n w b) (e : ∀ x y, F x y = G x y) : MW G n w b := by
  obtain ⟨D, h1, h2, h3⟩ := h
  exact ⟨D, h1, h2, fun x y hx hy => by rw [h3 x y hx hy, e]⟩
theorem MW.look {F : Int → Int → Int} {n : Nat} {w : World} {b : Nat} (h : MW F n w b) {x y : Int} (hx : sm x) (hy : sm y) :
    (Instr.lookup 45 (.map (some b)) (.agg #[.int .i64 x, .int .i64 y]) false).run Try.prog w = .ok (.int .i64 (F x y)) w := by
  obtain ⟨D, hown, _, h3⟩ := h
  obtain ⟨c0, hrun, hat, _⟩ := hown.lookup_int lawK Try.underlying45 Try.underlying32 (zeroE w) (key_of hx hy)
  have e : c0 = F x y := by
    have := hat.symm.trans (h3 x y hx hy)
    cases this; rfl
  rw [← e]; exact hrun
def upF (F : Int → Int → Int) (a b v : Int) (x y : Int) : Int := if x = a ∧ y = b then v else F x y
theorem MW.put {F : Int → Int → Int} {n : Nat} {w : World} {b : Nat} (h : MW F n w b) (hn : n < 1000) {x y : Int} (hx : sm x) (hy : sm y) (v : Int) (hv : 0 ≤ v ∧ v ≤ 1000000) :
    ∃ w', (Instr.mapUpdate 45 (.map (some b)) (.agg #[.int .i64 x, .int .i64 y]) (.int .i64 v)).run Try.prog w = .ok () w' ∧ MW (upF F x y v) (n + 1) w' b ∧ w.grownBy w' (some b) := by
  obtain ⟨D, hown, h2, h3⟩ := h
  obtain ⟨w', e, h1, hg⟩ := hown.update lawK Try.underlying45 (by unfold maxLen; omega) (key := kV x y) (val := .int .i64 v) (key_of hx hy) (plainElem_int Try.underlying32 (WalkArith.wf_i64 (by omega)))
  refine ⟨w', e, ⟨_, h1, h2.put _ _, fun a c ha hc => ?_⟩, hg⟩
  unfold upF
  by_cases q : a = x ∧ c = y
  · rw [if_pos q]
    obtain ⟨rfl, rfl⟩ := q
    exact atKey_put_same h2 (lawK.key (key_of ha hc)) _ _
  · rw [if_neg q, atKey_put_other (kA_ne hx hy ha hc q)]
    exact h3 a c ha hc
/-- .. at the operation, and in a region that draws its order. -/
theorem wpList_lay (w : World) {ops : Array Oper} {rest : List Oper} {o : Oper} {a : Act} {Q : Exit → Act → World → Prop}
    (hg : o.guard = none) (m x v : Operand) (hop : o.op = Op.insert 45 m x v) (b n : Nat) (F : Int → Int → Int) (k1 k2 y : Int)
    (hm : a.eval m = .map (some b)) (hx : a.eval x = .agg #[.int .i64 k1, .int .i64 k2]) (hv : a.eval v = .int .i64 y) (h : MW F n w b) (hn : n < 1000) (s1 : sm k1) (s2 : sm k2) (hy : 0 ≤ y ∧ y ≤ 1000000)
    (hK : ∀ w', MW (upF F k1 k2 y) (n + 1) w' b → w.grownBy w' (some b) → wpList Try.prog ops Q rest (a.put o.dst undef) w') :
    wpList Try.prog ops Q (o :: rest) a w := by
  refine wpList_plain hg fun K' hK' => ?_
  obtain ⟨w', hrun, r1, r2⟩ := h.put hn s1 s2 y hy
  unfold Oper.wp
  simp [execOp, hop, hm, hx, hv, hrun, Result.andThen]
  exact hK' _ _ (hK w' r1 r2)
/-- The numbers. -/
def ctI (a b : Int) : Int := (cnt a.toNat b.toNat : Int)
def cF (K p j : Int) (a b : Int) : Int := if 0 ≤ a ∧ 0 ≤ b ∧ (a = 0 ∨ (b ≤ K ∧ (a < p ∨ (a = p ∧ b < j)))) then ctI a b else 0
theorem cnt_edge : ∀ p, p < 5 → ∀ j, j < 9 → 1 ≤ p → cnt p j = cnt (p - 1) j + (if j = 0 then 0 else cnt p (j - 1)) + (if j = 0 then 0 else cnt (p - 1) (j - 1)) := by decide +kernel
theorem ctI_bd {a b : Int} (h1 : a ≤ 4) (h2 : b ≤ 8) : 0 ≤ ctI a b ∧ ctI a b ≤ 100000 := by
  have := (cnt_small a.toNat (by omega) b.toNat (by omega)).1
  unfold ctI; omega
theorem cF_bd (K p j : Int) {a b : Int} (h1 : a ≤ 4) (h2 : b ≤ 8) : 0 ≤ cF K p j a b ∧ cF K p j a b ≤ 100000 := by
  have := ctI_bd h1 h2
  unfold cF
  split
  · exact this
  · omega
theorem cF_in {K p j a b : Int} (h1 : 0 ≤ a) (h2 : 0 ≤ b) (h3 : b ≤ K) (h4 : a < p) : cF K p j a b = ctI a b := if_pos ⟨h1, h2, .inr ⟨h3, .inl h4⟩⟩
theorem cF_step {K : Int} {p j : Nat} (hp : 1 ≤ p) (hp4 : p ≤ 4) (hK : K ≤ 8) (hj : (j : Int) ≤ K) :
    cF K p j ((p : Int) - 1) j + cF K p j p ((j : Int) - 1) + cF K p j ((p : Int) - 1) ((j : Int) - 1) = ctI p j := by
  have hr := cnt_edge p (by omega) j (by omega) hp
  have e1 : cF K p j ((p : Int) - 1) j = ((cnt (p - 1) j : Nat) : Int) := by
    rw [cF_in (by omega) (by omega) (by omega) (by omega)]
    unfold ctI
    rw [show ((p : Int) - 1).toNat = p - 1 by omega, Int.toNat_natCast]
  rw [e1]
  by_cases h0 : j = 0
  · subst h0
    have n1 : ∀ x : Int, cF K p (0 : Nat) x (((0 : Nat) : Int) - 1) = 0 := fun x => if_neg (by omega)
    rw [n1, n1]
    unfold ctI
    rw [Int.toNat_natCast, Int.toNat_natCast]
    simp at hr
    omega
  · have e2 : cF K p j p ((j : Int) - 1) = ((cnt p (j - 1) : Nat) : Int) := by
      have : cF K p j p ((j : Int) - 1) = ctI p ((j : Int) - 1) := if_pos ⟨by omega, by omega, .inr ⟨by omega, .inr ⟨rfl, by omega⟩⟩⟩
      rw [this]
      unfold ctI
      rw [show ((j : Int) - 1).toNat = j - 1 by omega, Int.toNat_natCast]
    have e3 : cF K p j ((p : Int) - 1) ((j : Int) - 1) = ((cnt (p - 1) (j - 1) : Nat) : Int) := by
      rw [cF_in (by omega) (by omega) (by omega) (by omega)]
      unfold ctI
      rw [show ((p : Int) - 1).toNat = p - 1 by omega, show ((j : Int) - 1).toNat = j - 1 by omega]
    rw [e2, e3]
    rw [if_neg h0, if_neg h0] at hr
    unfold ctI
    rw [Int.toNat_natCast, Int.toNat_natCast]
    omega
theorem cF_up {K : Int} {p j : Nat} (hp : 1 ≤ p) (hj : (j : Int) ≤ K) (x y : Int) : upF (cF K p j) p j (ctI p j) x y = cF K p ((j + 1 : Nat) : Int) x y := by
  unfold upF
  by_cases q : x = p ∧ y = j
  · rw [if_pos q]
    obtain ⟨rfl, rfl⟩ := q
    exact (if_pos ⟨by omega, by omega, .inr ⟨hj, .inr ⟨rfl, by omega⟩⟩⟩).symm
  · rw [if_neg q]
    unfold cF
    by_cases c : 0 ≤ x ∧ 0 ≤ y ∧ (x = 0 ∨ (y ≤ K ∧ (x < p ∨ (x = p ∧ y < j))))
    · rw [if_pos c, if_pos (by omega)]
    · rw [if_neg c, if_neg (by omega)]
theorem cF_row {K : Int} {p j : Nat} (hp : 1 ≤ p) (hj : (j : Int) = K + 1) (x y : Int) : cF K p j x y = cF K ((p + 1 : Nat) : Int) 0 x y := by
  unfold cF
  by_cases c : 0 ≤ x ∧ 0 ≤ y ∧ (x = 0 ∨ (y ≤ K ∧ (x < p ∨ (x = p ∧ y < j))))
  · rw [if_pos c, if_pos (by omega)]
  · rw [if_neg c, if_neg (by omega)]
theorem cF_first (K x y : Int) : upF (fun _ _ => 0) 0 0 1 x y = cF K 1 0 x y := by
  unfold upF cF
  by_cases q : x = 0 ∧ y = 0
  · rw [if_pos q, if_pos (by omega)]
    obtain ⟨rfl, rfl⟩ := q
    decide
  · rw [if_neg q]
    by_cases c : 0 ≤ x ∧ 0 ≤ y ∧ (x = 0 ∨ (y ≤ K ∧ (x < 1 ∨ (x = 1 ∧ y < 0))))
    · rw [if_pos c]
      have hx : x = 0 := by omega
      subst hx
      have hy : y ≠ 0 := fun e => q ⟨rfl, e⟩
      unfold ctI
      show (0 : Int) = ((if y.toNat = 0 then 1 else 0 : Nat) : Int)
      rw [if_neg (by omega)]; rfl
    · rw [if_neg c]
end Go.Proofs.Ytlmjollglbbegaa.PulH
