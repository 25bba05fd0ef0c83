/- Lists of bands: two cells each; the laws' own helpers over them; what an exact law over such an answer keeps. Condition: at most 1048576 bands. -/
import Derived.Test.YtnmjmknhlpmkoaaApp
import Derived.Test.YtnmjmknhlpmkoaaBlk
import Derived.RegionTactic
import Derived.Deep.RegionHeld3
namespace Go.Proofs.Ytnmjmknhlpmkoaa.BaL
open Go.ChangeShapes Go.WideShapes Go.ChangeAt Go.RowKit Go.Proofs.Ytnmjmknhlpmkoaa.Num Go.Proofs.Ytnmjmknhlpmkoaa.Sli Go.Proofs.Ytnmjmknhlpmkoaa.App Go.Proofs.Ytnmjmknhlpmkoaa.Blk

abbrev B2 := Int × Int
/-- The slice v holds these bands in w. -/
def SlB (w : World) (v : Value) (ls : List B2) : Prop :=
  ∃ a cap, v = .slice a ls.length cap ∧ (ls ≠ [] → ∃ b off, a = some ⟨b, off, none⟩ ∧ b < w.heap.size ∧ ∀ i, i < ls.length →
    w.cell? ⟨b, off + i * 2, none⟩ = some (.int .i64 (ls.getD i (0, 0)).1) ∧ w.cell? ⟨b, off + i * 2 + 1, none⟩ = some (.int .i64 (ls.getD i (0, 0)).2))
theorem SlB.keep {w w' : World} {v : Value} {ls : List B2} {n : Nat} (h : SlB w v ls) (hb : Below n w w') (hn : w.heap.size ≤ n) : SlB w' v ls := by
  obtain ⟨a, cap, rfl, hc⟩ := h
  refine ⟨a, cap, rfl, fun hne => ?_⟩
  obtain ⟨b, off, rfl, hlt, hcell⟩ := hc hne
  refine ⟨b, off, rfl, Nat.lt_of_lt_of_le hlt (by have := hb.size; omega), fun i hi => ?_⟩
  obtain ⟨c1, c2⟩ := hcell i hi
  exact ⟨(hb.cell (p := ⟨b, off + i * 2, none⟩) (Nat.lt_of_lt_of_le hlt hn)).trans c1, (hb.cell (p := ⟨b, off + i * 2 + 1, none⟩) (Nat.lt_of_lt_of_le hlt hn)).trans c2⟩
theorem SlB.later {w w' : World} {v : Value} {ls : List B2} (h : SlB w v ls) (hb : Below w.heap.size w w') : SlB w' v ls := h.keep hb (Nat.le_refl _)
/-- What lies in the cells, one behind the other. -/
def flat : List B2 → List Value
  | [] => []
  | s :: t => .int .i64 s.1 :: .int .i64 s.2 :: flat t
theorem flat_len (ls : List B2) : (flat ls).length = ls.length * 2 := by
  induction ls with
  | nil => rfl
  | cons s t ih => simp [flat, ih]; omega
theorem flat_append (ls ms : List B2) : flat (ls ++ ms) = flat ls ++ flat ms := by
  induction ls with
  | nil => rfl
  | cons s t ih => simp [flat, ih]
theorem flat_get (ls : List B2) (i : Nat) (hi : i < ls.length) :
    (flat ls)[i * 2]? = some (.int .i64 (ls.getD i (0, 0)).1) ∧ (flat ls)[i * 2 + 1]? = some (.int .i64 (ls.getD i (0, 0)).2) := by
  induction ls generalizing i with
  | nil => simp at hi
  | cons s t ih =>
    cases i with
    | zero => simp [flat]
    | succ i =>
      obtain ⟨h1, h2⟩ := ih i (by simpa using hi)
      rw [show (i + 1) * 2 = i * 2 + 1 + 1 by omega]
      simp only [flat, List.getElem?_cons_succ, List.getD_cons_succ]
      exact ⟨h1, h2⟩
theorem flat_set (ls : List B2) (i : Nat) (a b : Int) (hi : i < ls.length) : ((flat ls).set (i * 2) (.int .i64 a)).set (i * 2 + 1) (.int .i64 b) = flat (ls.set i (a, b)) := by
  induction ls generalizing i with
  | nil => simp at hi
  | cons s t ih =>
    cases i with
    | zero => simp [flat]
    | succ i =>
      rw [show (i + 1) * 2 = i * 2 + 1 + 1 by omega]
      simp only [flat, List.set_cons_succ, ← ih i (by simpa using hi)]
/-- The marks. -/
def mk2 (i : Nat) : B2 := (1 + 2 * (i : Int), 1 + 2 * (i : Int) + 1)
def marks2 (n : Nat) : List B2 := (List.range n).map mk2
theorem marks2_len (n : Nat) : (marks2 n).length = n := by simp [marks2]
theorem marks2_get (n i : Nat) (h : i < n) : (marks2 n).getD i (0, 0) = mk2 i := by simp [marks2, h]
def marked2 (ls : List B2) (i : Nat) : List B2 := marks2 i ++ ls.drop i
theorem marked2_len (ls : List B2) (i : Nat) (h : i ≤ ls.length) : (marked2 ls i).length = ls.length := by simp [marked2, marks2_len]; omega
theorem marked2_all (ls : List B2) : marked2 ls ls.length = marks2 ls.length := by simp [marked2]
theorem marked2_set (ls : List B2) (i : Nat) (h : i < ls.length) : (marked2 ls i).set i (mk2 i) = marked2 ls (i + 1) := by
  unfold marked2
  apply List.ext_getElem
  · simp [marks2_len]; omega
  · intro j h1 h2
    simp only [List.getElem_set, List.getElem_append, marks2_len, List.getElem_drop]
    by_cases e : i = j
    · subst e; simp [marks2, show i < i + 1 by omega]
    · simp only [e, if_false]
      by_cases hi : j < i
      · simp [hi, show j < i + 1 by omega, marks2]
      · simp only [hi, show ¬ j < i + 1 by omega, dite_false]
        congr 1
        omega
end Go.Proofs.Ytnmjmknhlpmkoaa.BaL
