/- Lists of slots: three cells each. -/
import Derived.Test.YthecfboplfmdmaaDoorApp
import Derived.Test.YthecfboplfmdmaaDoorDec
import Derived.Test.YthecfboplfmdmaaDoorRangeM
namespace Go.Proofs.YthecfboplfmdmaaDoor.SlS
open Go.ChangeShapes Go.WideShapes Go.ChangeAt Go.RowKit Go.Proofs.YthecfboplfmdmaaDoor.Num Go.Proofs.YthecfboplfmdmaaDoor.Sli Go.Proofs.YthecfboplfmdmaaDoor.App Go.Proofs.YthecfboplfmdmaaDoor.Dec Go.Proofs.YthecfboplfmdmaaDoor.RangeM

abbrev Sl3 := Int × Int × Int
/-- The slice v holds these slots in w. -/
def SlS (w : World) (v : Value) (ls : List Sl3) : Prop :=
  ∃ a cap, v = .slice a ls.length cap ∧ (ls ≠ [] → ∃ b off, a = some ⟨b, off, none⟩ ∧ b < w.heap.size ∧ ∀ i, i < ls.length →
    w.cell? ⟨b, off + i * 3, none⟩ = some (.int .i64 (ls.getD i (0, 0, 0)).1) ∧ w.cell? ⟨b, off + i * 3 + 1, none⟩ = some (.int .i64 (ls.getD i (0, 0, 0)).2.1) ∧ w.cell? ⟨b, off + i * 3 + 2, none⟩ = some (.int .i64 (ls.getD i (0, 0, 0)).2.2))
theorem SlS.keep {w w' : World} {v : Value} {ls : List Sl3} {n : Nat} (h : SlS w v ls) (hb : Below n w w') (hn : w.heap.size ≤ n) : SlS w' v ls := by
  obtain ⟨a, cap, rfl, hc⟩ := h
  refine ⟨a, cap, rfl, fun hne => ?_⟩
  obtain ⟨b, off, rfl, hlt, hcell⟩ := hc hne
  refine ⟨b, off, rfl, Nat.lt_of_lt_of_le hlt (by have := hb.size; omega), fun i hi => ?_⟩
  obtain ⟨c1, c2, c3⟩ := hcell i hi
  exact ⟨(hb.cell (p := ⟨b, off + i * 3, none⟩) (Nat.lt_of_lt_of_le hlt hn)).trans c1, (hb.cell (p := ⟨b, off + i * 3 + 1, none⟩) (Nat.lt_of_lt_of_le hlt hn)).trans c2, (hb.cell (p := ⟨b, off + i * 3 + 2, none⟩) (Nat.lt_of_lt_of_le hlt hn)).trans c3⟩
theorem SlS.later {w w' : World} {v : Value} {ls : List Sl3} (h : SlS w v ls) (hb : Below w.heap.size w w') : SlS w' v ls := h.keep hb (Nat.le_refl _)

/-- What lies in the cells, one behind the other. -/
def flat : List Sl3 → List Value
  | [] => []
  | s :: t => .int .i64 s.1 :: .int .i64 s.2.1 :: .int .i64 s.2.2 :: flat t
theorem flat_len (ls : List Sl3) : (flat ls).length = ls.length * 3 := by
  induction ls with
  | nil => rfl
  | cons s t ih => simp [flat, ih]; omega
theorem flat_append (ls ms : List Sl3) : flat (ls ++ ms) = flat ls ++ flat ms := by
  induction ls with
  | nil => rfl
  | cons s t ih => simp [flat, ih]
theorem flat_get (ls : List Sl3) (i : Nat) (hi : i < ls.length) :
    (flat ls)[i * 3]? = some (.int .i64 (ls.getD i (0, 0, 0)).1) ∧ (flat ls)[i * 3 + 1]? = some (.int .i64 (ls.getD i (0, 0, 0)).2.1) ∧ (flat ls)[i * 3 + 2]? = some (.int .i64 (ls.getD i (0, 0, 0)).2.2) := by
  induction ls generalizing i with
  | nil => simp at hi
  | cons s t ih =>
    cases i with
    | zero => simp [flat]
    | succ i =>
      obtain ⟨h1, h2, h3⟩ := ih i (by simpa using hi)
      rw [show (i + 1) * 3 = i * 3 + 1 + 1 + 1 by omega]
      simp only [flat, List.getElem?_cons_succ, List.getD_cons_succ]
      exact ⟨h1, h2, h3⟩
/-- An owned list of slots. -/
def OwS (base : Nat) (w : World) (v : Value) (ls : List Sl3) : Prop := w.ownsRow base 75 3 v ls.length (flat ls)
theorem own_sls {base : Nat} {t : TypeId} {w : World} {v : Value} {ls : List Sl3} (h : w.ownsRow base t 3 v ls.length (flat ls)) : SlS w v ls := by
  rcases h.2 with ⟨rfl, h0⟩ | ⟨g, cap, cur, rfl, hb, hg, hle, hc, hs, ht⟩
  · exact ⟨none, 0, by rw [h0], fun hne => by cases ls with | nil => exact absurd rfl hne | cons => simp at h0⟩
  · refine ⟨_, cap, rfl, fun hne => ⟨g, 0, rfl, (Array.getElem?_eq_some_iff.1 hg).1, fun i hi => ?_⟩⟩
    have key : ∀ j x, j < ls.length * 3 → (flat ls)[j]? = some x → w.cell? ⟨g, 0 + j, none⟩ = some x := by
      intro j x hj hx
      rw [← ht, List.getElem?_take_of_lt hj, Array.getElem?_toList] at hx
      simp [World.cell?, hg, hx]
    obtain ⟨h1, h2, h3⟩ := flat_get ls i hi
    have k1 := key _ _ (by omega) h1
    have k2 := key _ _ (by omega) h2
    have k3 := key _ _ (by omega) h3
    rw [← Nat.add_assoc] at k2 k3
    exact ⟨k1, k2, k3⟩
theorem OwS.sls {base : Nat} {w : World} {v : Value} {ls : List Sl3} (h : OwS base w v ls) : SlS w v ls := own_sls h

/-! The faults of a list; its slots as numbers. -/
def toSn (s : Sl3) : Sn := ⟨s.1.toNat, s.2.1.toNat, s.2.2.toNat⟩
def sG (s : Sl3) : Int := sF s.1 s.2.1 s.2.2
def fF : List Sl3 → Int
  | [] => 0
  | s :: t => if sG s = 0 then fF t else sG s
theorem sG_of {s : Sl3} (h : sG s = 0) : (toSn s).ok ∧ s.1 = ((toSn s).lo : Int) ∧ s.2.1 = ((toSn s).sz : Int) ∧ s.2.2 = ((toSn s).tot : Int) := by
  obtain ⟨h1, h2, h3⟩ := of_sF h
  unfold toSn Sn.ok
  dsimp only
  omega
theorem fF_zero {ls : List Sl3} (h : ∀ i, i < ls.length → sG (ls.getD i (0, 0, 0)) = 0) : fF ls = 0 := by
  induction ls with
  | nil => rfl
  | cons s t ih =>
    have h0 := h 0 (by simp)
    simp only [List.getD_cons_zero] at h0
    unfold fF
    rw [if_pos h0]
    exact ih (fun i hi => by have := h (i + 1) (by simpa using hi); simpa using this)
theorem fF_first {ls : List Sl3} {k : Nat} (hk : k < ls.length) (h : ∀ i, i < k → sG (ls.getD i (0, 0, 0)) = 0) (h1 : sG (ls.getD k (0, 0, 0)) ≠ 0) : fF ls = sG (ls.getD k (0, 0, 0)) := by
  induction ls generalizing k with
  | nil => simp at hk
  | cons s t ih =>
    cases k with
    | zero =>
      simp only [List.getD_cons_zero] at *
      unfold fF; rw [if_neg h1]
    | succ k =>
      have h0 := h 0 (by omega)
      simp only [List.getD_cons_zero] at h0
      unfold fF
      rw [if_pos h0, List.getD_cons_succ]
      exact ih (by simpa using hk) (fun i hi => by have := h (i + 1) (by omega); simpa using this) (by simpa using h1)
theorem fF_all {ls : List Sl3} (h : fF ls = 0) : ∀ i, i < ls.length → sG (ls.getD i (0, 0, 0)) = 0 := by
  induction ls with
  | nil => intro i hi; simp at hi
  | cons s t ih =>
    unfold fF at h
    split at h
    · rename_i h0
      intro i hi
      cases i with
      | zero => simpa using h0
      | succ i => rw [List.getD_cons_succ]; exact ih h i (by simpa using hi)
    · rename_i h0; exact absurd h h0
/-- The answer's code and bytes. -/
def eC (ls : List Sl3) : Int := if 400 < ls.length then 2 else fF ls
def sns (ls : List Sl3) : List Sn := ls.map toSn
def eL (ls : List Sl3) : List Int := if eC ls = 0 then encL (sns ls) else []
theorem eC_many {ls : List Sl3} (h : 400 < ls.length) : eC ls = 2 ∧ eL ls = [] := by
  have : eC ls = 2 := by unfold eC; rw [if_pos h]
  refine ⟨this, ?_⟩
  unfold eL; rw [this]; rfl
theorem eC_fault {ls : List Sl3} {k : Nat} (hl : ls.length ≤ 400) (hk : k < ls.length) (h : ∀ i, i < k → sG (ls.getD i (0, 0, 0)) = 0) (h1 : sG (ls.getD k (0, 0, 0)) ≠ 0) : eC ls = sG (ls.getD k (0, 0, 0)) ∧ eL ls = [] := by
  have : eC ls = sG (ls.getD k (0, 0, 0)) := by unfold eC; rw [if_neg (by omega)]; exact fF_first hk h h1
  refine ⟨this, ?_⟩
  unfold eL; rw [this, if_neg h1]
theorem eC_ok {ls : List Sl3} (hl : ls.length ≤ 400) (h : ∀ i, i < ls.length → sG (ls.getD i (0, 0, 0)) = 0) : eC ls = 0 ∧ eL ls = encL (sns ls) := by
  have : eC ls = 0 := by unfold eC; rw [if_neg (by omega)]; exact fF_zero h
  refine ⟨this, ?_⟩
  unfold eL; rw [this]; rfl
theorem sns_take (ls : List Sl3) (i : Nat) (hi : i < ls.length) : sns (ls.take (i + 1)) = sns (ls.take i) ++ [toSn (ls.getD i (0, 0, 0))] := by
  unfold sns
  rw [List.take_add_one, List.map_append, List.getElem?_eq_getElem hi, List.getD_eq_getElem?_getD, List.getElem?_eq_getElem hi]
  rfl
theorem sns_ok {ls : List Sl3} {k : Nat} (hk : k ≤ ls.length) (h : ∀ i, i < k → sG (ls.getD i (0, 0, 0)) = 0) : ∀ s ∈ sns (ls.take k), s.ok := by
  intro s hs
  unfold sns at hs
  obtain ⟨x, hx, rfl⟩ := List.mem_map.1 hs
  obtain ⟨i, hi, rfl⟩ := List.mem_iff_getElem.1 hx
  rw [List.length_take] at hi
  have := h i (by omega)
  rw [List.getD_eq_getElem?_getD, List.getElem?_eq_getElem (by omega)] at this
  rw [List.getElem_take]
  exact (sG_of this).1
end Go.Proofs.YthecfboplfmdmaaDoor.SlS
