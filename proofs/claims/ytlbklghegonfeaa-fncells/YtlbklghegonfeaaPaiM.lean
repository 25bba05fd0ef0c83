/- The mathematics of one index for two paths: both numbers of an index, what each of them tells, cells, and the index of two numbers. No program is spoken of. -/
import Derived.Test.YtlbklghegonfeaaHalM
import Derived.Test.YtlbklghegonfeaaNum
namespace Go.Proofs.Ytlbklghegonfeaa.PaiM
open Go.ChangeShapes Go.WideShapes Go.ChangeAt Go.RowKit Go.Proofs.Ytlbklghegonfeaa.Num Go.Proofs.Ytlbklghegonfeaa.HalM

def spB (k : Int) : Bool := inB 0 2 k
def ixB (q : Int) : Bool := inB (-30000) 30000 q
/-- Both numbers, not turned; the numbers of the sides. -/
def paA (q k : Int) : Int := if k = 1 then (q + 1) / 2 else if k = 2 then (if q = 3 * (q / 3) + 2 then q / 3 + 1 else q / 3) else q
def paB (q k : Int) : Int := if k = 1 then q / 2 else if k = 2 then (if q = 3 * (q / 3) + 1 then q / 3 + 1 else q / 3) else q
def paF (q k : Int) (t : Bool) : Int := if t = true then paB q k else paA q k
def paG (q k : Int) (t : Bool) : Int := if t = true then paA q k else paB q k
theorem sp_cases {k : Int} (h : spB k = true) : k = 0 ∨ k = 1 ∨ k = 2 := by have := of_inB h; omega
theorem pa_swap (q k : Int) (t : Bool) : paF q k (!t) = paG q k t ∧ paG q k (!t) = paF q k t := by cases t <;> exact ⟨rfl, rfl⟩
/-- By how much an index may be off. -/
def scB (s : Int) (t : Bool) : Bool := (s == 1) != t
def ofV (s k : Int) (t : Bool) : Int := if (k == 2 && !scB s t) = true then 1 else k
/-- The common answers. -/
def siO (q k : Int) : Bool := spB k && ixB q
def siC (q k : Int) : Int := if siO q k = true then 0 else 3
def siA (q k : Int) (t : Bool) : Int := if siO q k = true then paF q k t else 0
def siB (q k : Int) (t : Bool) : Int := if siO q k = true then paG q k t else 0
def sdO (s k : Int) : Bool := inB 0 1 s && spB k
def xiO (s v k : Int) : Bool := sdO s k && ixB v
def xiC (s v k : Int) : Int := if xiO s v k = true then 0 else 3
def xiV (s v k : Int) : Int := if xiO s v k = true then (k + 1) * v else 0
def soC (s k : Int) : Int := if sdO s k = true then 0 else 3
def soV (s k : Int) (t : Bool) : Int := if sdO s k = true then ofV s k t else 0
def ceP (s v k : Int) (t : Bool) (q : Int) : Bool := ixB q && ((s == 0 && paF q k t == v) || (s == 1 && paG q k t == v))
def ceQ (v k : Int) (i : Nat) : Int := (k + 1) * v - 3 + (i : Int)
def ceI (s v k : Int) (t : Bool) (i : Nat) : List Int := (mkL i (ceQ v k)).filter (ceP s v k t)
def ceL (s v k : Int) (t : Bool) : List Int := ceI s v k t 7
def clL (s v k : Int) (t : Bool) : List Int := if xiO s v k = true then ceL s v k t else []
def joF (a b k : Int) (t : Bool) : Option Int := (ceL 0 a k t).find? (fun q => paG q k t == b)
def joO (a b k : Int) : Bool := spB k && (ixB a && ixB b)
def joD (a b k : Int) (t : Bool) : Bool := (joF a b k t).isSome
def joC (a b k : Int) (t : Bool) : Int := if joO a b k = true then (if joD a b k t = true then 0 else 4) else 3
def joV (a b k : Int) (t : Bool) : Int := if joC a b k t = 0 then (joF a b k t).getD 0 else 0
theorem ceI_zero (s v k : Int) (t : Bool) : ceI s v k t 0 = [] := rfl
theorem ceI_succ (s v k : Int) (t : Bool) (i : Nat) : ceI s v k t (i + 1) = ceI s v k t i ++ (if ceP s v k t (ceQ v k i) = true then [ceQ v k i] else []) := by
  unfold ceI
  rw [mkL_succ, List.filter_append]
  congr 1
  cases h : ceP s v k t (ceQ v k i) <;> simp [h]
theorem ceI_len (s v k : Int) (t : Bool) (i : Nat) : (ceI s v k t i).length ≤ i := by
  have := List.length_filter_le (ceP s v k t) (mkL i (ceQ v k))
  rw [mkL_len] at this
  exact this
/-- What both numbers are. -/
theorem pA0 (q : Int) : paA q 0 = q ∧ paB q 0 = q := ⟨rfl, rfl⟩
theorem pA1 (q : Int) : paA q 1 = (q + 1) / 2 ∧ paB q 1 = q / 2 := ⟨if_pos rfl, if_pos rfl⟩
theorem pA2 (q : Int) : ∃ t, (q = 3 * t ∧ paA q 2 = t ∧ paB q 2 = t) ∨ (q = 3 * t + 1 ∧ paA q 2 = t ∧ paB q 2 = t + 1) ∨ (q = 3 * t + 2 ∧ paA q 2 = t + 1 ∧ paB q 2 = t) := by
  have ea : paA q 2 = if q = 3 * (q / 3) + 2 then q / 3 + 1 else q / 3 := rfl
  have eb : paB q 2 = if q = 3 * (q / 3) + 1 then q / 3 + 1 else q / 3 := rfl
  refine ⟨q / 3, ?_⟩
  rw [ea, eb]
  by_cases h1 : q = 3 * (q / 3) + 1
  · rw [if_neg (by omega), if_pos h1]; omega
  · by_cases h2 : q = 3 * (q / 3) + 2
    · rw [if_pos h2, if_neg h1]; omega
    · rw [if_neg h2, if_neg h1]; omega
theorem pa_small {q k : Int} (h : siO q k = true) (t : Bool) : ixB (paF q k t) = true ∧ ixB (paG q k t) = true := by
  unfold siO at h
  simp at h
  have hq := of_inB h.2
  have key : ixB (paA q k) = true ∧ ixB (paB q k) = true := by
    rcases sp_cases h.1 with rfl | rfl | rfl
    · exact ⟨h.2, h.2⟩
    · obtain ⟨e1, e2⟩ := pA1 q
      exact ⟨inB_yes (by omega) (by omega), inB_yes (by omega) (by omega)⟩
    · obtain ⟨t, e⟩ := pA2 q
      exact ⟨inB_yes (by omega) (by omega), inB_yes (by omega) (by omega)⟩
  cases t
  · exact key
  · exact ⟨key.2, key.1⟩
theorem pa_off {q k : Int} (h : spB k = true) : absV ((k + 1) * paA q k - q) ≤ (if k = 2 then 1 else k) ∧ absV ((k + 1) * paB q k - q) ≤ k := by
  have a1 := absV_bd ((k + 1) * paA q k - q)
  have a2 := absV_bd ((k + 1) * paB q k - q)
  rcases sp_cases h with rfl | rfl | rfl
  · obtain ⟨e1, e2⟩ := pA0 q
    rw [if_neg (by omega)]; omega
  · obtain ⟨e1, e2⟩ := pA1 q
    rw [if_neg (by omega)]; omega
  · obtain ⟨t, e⟩ := pA2 q
    rw [if_pos rfl]; omega
theorem pa_inj {q r k : Int} (h : spB k = true) (h1 : paA q k = paA r k) (h2 : paB q k = paB r k) : q = r := by
  rcases sp_cases h with rfl | rfl | rfl
  · exact h1
  · obtain ⟨e1, e2⟩ := pA1 q
    obtain ⟨e3, e4⟩ := pA1 r
    omega
  · obtain ⟨t, e⟩ := pA2 q
    obtain ⟨u, f⟩ := pA2 r
    omega
theorem pa_inj_t {q r k : Int} {t : Bool} (h : spB k = true) (h1 : paF q k t = paF r k t) (h2 : paG q k t = paG r k t) : q = r := by
  cases t
  · exact pa_inj h h1 h2
  · exact pa_inj h h2 h1
theorem of_bd {s k : Int} {t : Bool} (h : spB k = true) : 0 ≤ ofV s k t ∧ ofV s k t ≤ k ∧ k ≤ 2 := by
  have := sp_cases h
  unfold ofV
  split
  · rename_i hc; simp at hc; omega
  · omega
theorem off_side {q k : Int} {t : Bool} (h : spB k = true) : absV ((k + 1) * paF q k t - q) ≤ ofV 0 k t ∧ absV ((k + 1) * paG q k t - q) ≤ ofV 1 k t := by
  obtain ⟨h1, h2⟩ := pa_off (q := q) h
  have hk := sp_cases h
  cases t
  · refine ⟨?_, ?_⟩
    · show absV ((k + 1) * paA q k - q) ≤ _
      have : ofV 0 k false = if k = 2 then 1 else k := by unfold ofV scB; rcases hk with rfl | rfl | rfl <;> rfl
      rw [this]; exact h1
    · show absV ((k + 1) * paB q k - q) ≤ _
      have : ofV 1 k false = k := by unfold ofV scB; rcases hk with rfl | rfl | rfl <;> rfl
      rw [this]; exact h2
  · refine ⟨?_, ?_⟩
    · show absV ((k + 1) * paB q k - q) ≤ _
      have : ofV 0 k true = k := by unfold ofV scB; rcases hk with rfl | rfl | rfl <;> rfl
      rw [this]; exact h2
    · show absV ((k + 1) * paA q k - q) ≤ _
      have : ofV 1 k true = if k = 2 then 1 else k := by unfold ofV scB; rcases hk with rfl | rfl | rfl <;> rfl
      rw [this]; exact h1
/-- Cells. -/
theorem ce_mem {s v k : Int} {t : Bool} {q : Int} (hk : spB k = true) : q ∈ ceL s v k t ↔ ceP s v k t q = true := by
  unfold ceL ceI
  rw [List.mem_filter]
  refine ⟨fun h => h.2, fun h => ⟨?_, h⟩⟩
  have hd : absV ((k + 1) * v - q) ≤ 2 := by
    have ho := off_side (q := q) (t := t) hk
    have b0 := of_bd (s := 0) (t := t) hk
    have b1 := of_bd (s := 1) (t := t) hk
    unfold ceP at h
    simp at h
    rcases h.2 with ⟨_, e⟩ | ⟨_, e⟩
    · rw [← e]; omega
    · rw [← e]; omega
  have hd2 : -2 ≤ (k + 1) * v - q ∧ (k + 1) * v - q ≤ 2 := by
    have := absV_bd ((k + 1) * v - q); omega
  unfold mkL
  rw [List.mem_map]
  refine ⟨(q - ((k + 1) * v - 3)).toNat, by rw [List.mem_range]; omega, ?_⟩
  unfold ceQ; omega
theorem mkL_seven (f : Nat → Int) : mkL 7 f = [f 0, f 1, f 2, f 3, f 4, f 5, f 6] := rfl
theorem ce_len {s v k : Int} {t : Bool} (hs : inB 0 1 s = true) (hk : spB k = true) : ((ceL s v k t).length : Int) ≤ k + 1 := by
  have key : ∀ (P : Int → Bool), (∀ q, P q = true → paA q k = v) ∨ (∀ q, P q = true → paB q k = v) → (((mkL 7 (ceQ v k)).filter P).length : Int) ≤ k + 1 := by
    intro P hP
    rw [mkL_seven]
    have no : ∀ i : Nat, (paA (ceQ v k i) k ≠ v) → (∀ q, P q = true → paA q k = v) → P (ceQ v k i) = false := by
      intro i h1 h2
      cases h : P (ceQ v k i)
      · rfl
      · exact absurd (h2 _ h) h1
    have no2 : ∀ i : Nat, (paB (ceQ v k i) k ≠ v) → (∀ q, P q = true → paB q k = v) → P (ceQ v k i) = false := by
      intro i h1 h2
      cases h : P (ceQ v k i)
      · rfl
      · exact absurd (h2 _ h) h1
    rcases sp_cases hk with rfl | rfl | rfl
    · have hz : ∀ i : Nat, i ≠ 3 → P (ceQ v 0 i) = false := by
        intro i hi
        rcases hP with h | h
        · exact no i (by obtain ⟨e1, _⟩ := pA0 (ceQ v 0 i); rw [e1]; unfold ceQ; omega) h
        · exact no2 i (by obtain ⟨_, e1⟩ := pA0 (ceQ v 0 i); rw [e1]; unfold ceQ; omega) h
      simp only [List.filter_cons, hz 0 (by decide), hz 1 (by decide), hz 2 (by decide), hz 4 (by decide), hz 5 (by decide), hz 6 (by decide), Bool.false_eq_true, if_false, List.filter_nil]
      split <;> simp
    · rcases hP with h | h
      · have hz : ∀ i : Nat, i ≠ 2 → i ≠ 3 → P (ceQ v 1 i) = false := fun i h2 h3 => no i (by obtain ⟨e1, _⟩ := pA1 (ceQ v 1 i); rw [e1]; unfold ceQ; omega) h
        simp only [List.filter_cons, hz 0 (by decide) (by decide), hz 1 (by decide) (by decide), hz 4 (by decide) (by decide), hz 5 (by decide) (by decide), hz 6 (by decide) (by decide), Bool.false_eq_true, if_false, List.filter_nil]
        split <;> split <;> simp
      · have hz : ∀ i : Nat, i ≠ 3 → i ≠ 4 → P (ceQ v 1 i) = false := fun i h2 h3 => no2 i (by obtain ⟨_, e1⟩ := pA1 (ceQ v 1 i); rw [e1]; unfold ceQ; omega) h
        simp only [List.filter_cons, hz 0 (by decide) (by decide), hz 1 (by decide) (by decide), hz 2 (by decide) (by decide), hz 5 (by decide) (by decide), hz 6 (by decide) (by decide), Bool.false_eq_true, if_false, List.filter_nil]
        split <;> split <;> simp
    · rcases hP with h | h
      · have hz : ∀ i : Nat, i ≠ 2 → i ≠ 3 → i ≠ 4 → P (ceQ v 2 i) = false := fun i h2 h3 h4 => no i (by obtain ⟨t, e1⟩ := pA2 (ceQ v 2 i); generalize hq : ceQ v 2 i = q at *; unfold ceQ at hq; omega) h
        simp only [List.filter_cons, hz 0 (by decide) (by decide) (by decide), hz 1 (by decide) (by decide) (by decide), hz 5 (by decide) (by decide) (by decide), hz 6 (by decide) (by decide) (by decide), Bool.false_eq_true, if_false, List.filter_nil]
        split <;> split <;> split <;> simp
      · have hz : ∀ i : Nat, i ≠ 1 → i ≠ 3 → i ≠ 5 → P (ceQ v 2 i) = false := fun i h2 h3 h4 => no2 i (by obtain ⟨t, e1⟩ := pA2 (ceQ v 2 i); generalize hq : ceQ v 2 i = q at *; unfold ceQ at hq; omega) h
        simp only [List.filter_cons, hz 0 (by decide) (by decide) (by decide), hz 2 (by decide) (by decide) (by decide), hz 4 (by decide) (by decide) (by decide), hz 6 (by decide) (by decide) (by decide), Bool.false_eq_true, if_false, List.filter_nil]
        split <;> split <;> split <;> simp
  have hs2 := of_inB hs
  refine key _ ?_
  have e : s = 0 ∨ s = 1 := by omega
  rcases e with rfl | rfl
  · cases t
    · exact Or.inl (fun q h => by unfold ceP paF at h; simp at h; exact h.2)
    · exact Or.inr (fun q h => by unfold ceP paF at h; simp at h; exact h.2)
  · cases t
    · exact Or.inr (fun q h => by unfold ceP paG at h; simp at h; exact h.2)
    · exact Or.inl (fun q h => by unfold ceP paG at h; simp at h; exact h.2)
theorem ce_up (s v k : Int) (t : Bool) : (ceL s v k t).Pairwise (· < ·) := by
  unfold ceL ceI
  refine List.Pairwise.filter _ ?_
  rw [mkL_seven]
  simp [ceQ]
  omega
/-- The index of two numbers. -/
theorem jo_split {q k : Int} {t : Bool} (h : siO q k = true) : joF (paF q k t) (paG q k t) k t = some q := by
  have hk : spB k = true := by unfold siO at h; simp at h; exact h.1
  have hm : q ∈ ceL 0 (paF q k t) k t := (ce_mem hk).2 (by unfold ceP; unfold siO at h; simp at h; rw [h.2]; simp)
  unfold joF
  cases hf : (ceL 0 (paF q k t) k t).find? (fun r => paG r k t == paG q k t) with
  | none =>
    rw [List.find?_eq_none] at hf
    exact absurd (by simp) (hf q hm)
  | some r =>
    have h1 := List.find?_some hf
    have h2 := (ce_mem hk).1 (List.mem_of_find?_eq_some hf)
    unfold ceP at h2
    simp at h1 h2
    rw [pa_inj_t hk h2.2 h1]
theorem jo_back {a b k q : Int} {t : Bool} (hk : spB k = true) (h : joF a b k t = some q) : ixB q = true ∧ paF q k t = a ∧ paG q k t = b := by
  unfold joF at h
  have h1 := List.find?_some h
  have h2 := (ce_mem hk).1 (List.mem_of_find?_eq_some h)
  unfold ceP at h2
  simp at h1 h2
  exact ⟨h2.1, h2.2, h1⟩
/-- The laws. -/
theorem jo_law {a b k : Int} {t : Bool} (h : joC a b k t = 0) : siC (joV a b k t) k = 0 ∧ siA (joV a b k t) k t = a ∧ siB (joV a b k t) k t = b := by
  have ho : joO a b k = true := by
    cases q : joO a b k
    · unfold joC at h; rw [if_neg (by rw [q]; decide)] at h; omega
    · rfl
  have hk : spB k = true := by unfold joO at ho; simp at ho; exact ho.1
  have hd : joD a b k t = true := by
    cases q : joD a b k t
    · unfold joC at h; rw [if_pos ho, if_neg (by rw [q]; decide)] at h; omega
    · rfl
  unfold joD at hd
  cases hf : joF a b k t with
  | none => rw [hf] at hd; cases hd
  | some q =>
    have hv : joV a b k t = q := by unfold joV; rw [if_pos h, hf]; rfl
    obtain ⟨g1, g2, g3⟩ := jo_back hk hf
    have hs : siO q k = true := by unfold siO; rw [hk, g1]; rfl
    rw [hv]
    exact ⟨if_pos hs, by unfold siA; rw [if_pos hs, g2], by unfold siB; rw [if_pos hs, g3]⟩
theorem si_yes {q k : Int} (h : siC q k = 0) : siO q k = true := by
  cases e : siO q k
  · unfold siC at h; rw [if_neg (by rw [e]; decide)] at h; omega
  · rfl
theorem pairs_law {q k : Int} (t : Bool) (h : siC q k = 0) :
    joC (siA q k t) (siB q k t) k t = 0 ∧ joV (siA q k t) (siB q k t) k t = q ∧ siA q k (!t) = siB q k t ∧ siB q k (!t) = siA q k t ∧
    absV (xiV 0 (siA q k t) k - q) ≤ soV 0 k t ∧ absV (xiV 1 (siB q k t) k - q) ≤ soV 1 k t ∧ soV 0 k t ≤ k := by
  have ho := si_yes h
  have hk : spB k = true := by unfold siO at ho; simp at ho; exact ho.1
  obtain ⟨s1, s2⟩ := pa_small ho t
  have ea : siA q k t = paF q k t := if_pos ho
  have eb : siB q k t = paG q k t := if_pos ho
  have ea2 : siA q k (!t) = paF q k (!t) := if_pos ho
  have eb2 : siB q k (!t) = paG q k (!t) := if_pos ho
  rw [ea, eb, ea2, eb2]
  have hf := jo_split (t := t) ho
  have hj : joO (paF q k t) (paG q k t) k = true := by unfold joO; rw [hk, s1, s2]; rfl
  have hc : joC (paF q k t) (paG q k t) k t = 0 := by
    unfold joC
    rw [if_pos hj, if_pos (by unfold joD; rw [hf]; rfl)]
  obtain ⟨w1, w2⟩ := pa_swap q k t
  obtain ⟨o1, o2⟩ := off_side (q := q) (t := t) hk
  have d0 : sdO 0 k = true := by unfold sdO; rw [hk]; rfl
  have d1 : sdO 1 k = true := by unfold sdO; rw [hk]; rfl
  have x0 : xiV 0 (paF q k t) k = (k + 1) * paF q k t := if_pos (by unfold xiO; rw [d0, s1]; rfl)
  have x1 : xiV 1 (paG q k t) k = (k + 1) * paG q k t := if_pos (by unfold xiO; rw [d1, s2]; rfl)
  have v0 : soV 0 k t = ofV 0 k t := if_pos d0
  have v1 : soV 1 k t = ofV 1 k t := if_pos d1
  rw [x0, x1, v0, v1]
  exact ⟨hc, by unfold joV; rw [if_pos hc, hf]; rfl, w1, w2, o1, o2, (of_bd hk).2.1⟩
theorem xi_small {s v k : Int} : -100000 ≤ xiV s v k ∧ xiV s v k ≤ 100000 := by
  unfold xiV
  split
  · rename_i h
    unfold xiO sdO at h
    simp at h
    have hv := of_inB h.2
    rcases sp_cases h.1.2 with rfl | rfl | rfl <;> omega
  · omega
end Go.Proofs.Ytlbklghegonfeaa.PaiM
