/- The mathematics of pulses: how many there are, their numbers, and those of a number. No program is spoken of. -/
import Derived.Test.YtbbejjlgfekipaaNorm
import Derived.Test.YtbbejjlgfekipaaHalM
namespace Go.Proofs.Ytbbejjlgfekipaa.PulM
open Go.ChangeShapes Go.WideShapes Go.ChangeAt Go.RowKit Go.Proofs.Ytbbejjlgfekipaa.Num Go.Proofs.Ytbbejjlgfekipaa.Norm Go.Proofs.Ytbbejjlgfekipaa.HalM

/-- How many pulses there are: rows of the lengths, one after the other. -/
def psF (f : Nat → Nat) : Nat → Nat
  | 0 => 0
  | n + 1 => psF f n + f n
def cnt : Nat → Nat → Nat
  | 0, k => if k = 0 then 1 else 0
  | d + 1, k => cnt d k + 2 * psF (cnt d) k
theorem cnt_small : ∀ d, d < 5 → ∀ k, k < 9 → cnt d k ≤ 100000 ∧ psF (cnt d) k ≤ 100000 := by decide +kernel
theorem cnt_rec : ∀ d, d < 5 → ∀ k, k < 9 → 2 ≤ d → 1 ≤ k → cnt d k = cnt (d - 1) k + cnt d (k - 1) + cnt (d - 1) (k - 1) := by decide +kernel
theorem cnt_one : ∀ k, k < 9 → 1 ≤ k → cnt 1 k = 2 := by decide +kernel
theorem cnt_none : ∀ d, d < 5 → cnt d 0 = 1 := by decide +kernel
/-- The numbers at a place, from -L on; how many pulses have the t-th of them; and all of those ahead of it. -/
def tm (d L t : Nat) : Nat := cnt d (L - (if t ≤ L then L - t else t - L))
def SS (d L : Nat) : Nat → Nat := psF (tm d L)
theorem SS_succ (d L m : Nat) : SS d L (m + 1) = SS d L m + tm d L m := rfl
theorem SS_all : ∀ d, d < 4 → ∀ L, L < 9 → SS d L (2 * L + 1) = cnt (d + 1) L := by decide +kernel
theorem SS_mono {d L a b : Nat} (h : a ≤ b) : SS d L a ≤ SS d L b := by
  induction b with
  | zero => have : a = 0 := by omega
            subst this; exact Nat.le_refl _
  | succ n ih =>
    by_cases e : a = n + 1
    · subst e; exact Nat.le_refl _
    · have := ih (by omega)
      rw [SS_succ]; omega
theorem tm_at {d L : Nat} {x : Int} (h1 : -(L : Int) ≤ x) (h2 : x ≤ L) : tm d L (x + L).toNat = cnt d (L - x.natAbs) := by
  unfold tm
  congr 1
  split <;> omega
def pkF (d L : Nat) : Nat → Nat → Nat → Nat × Nat
  | 0, m, i => (m, i)
  | f + 1, m, i => if tm d L m ≤ i then pkF d L f (m + 1) (i - tm d L m) else (m, i)
def pk (d L i : Nat) : Nat × Nat := pkF d L (2 * L) 0 i
theorem pk_spec {d L : Nat} : ∀ (f m i : Nat), m + f = 2 * L → SS d L (pkF d L f m i).1 + (pkF d L f m i).2 = SS d L m + i ∧ m ≤ (pkF d L f m i).1 ∧ (pkF d L f m i).1 ≤ 2 * L ∧ ((pkF d L f m i).1 = 2 * L ∨ (pkF d L f m i).2 < tm d L (pkF d L f m i).1)
  | 0, m, i, h => ⟨rfl, Nat.le_refl _, by show m ≤ _; omega, Or.inl (by show m = _; omega)⟩
  | f + 1, m, i, h => by
    unfold pkF
    by_cases hc : tm d L m ≤ i
    · rw [if_pos hc]
      obtain ⟨h1, h2, h3, h4⟩ := pk_spec (d := d) (L := L) f (m + 1) (i - tm d L m) (by omega)
      rw [SS_succ] at h1
      exact ⟨by omega, by omega, h3, h4⟩
    · rw [if_neg hc]
      exact ⟨rfl, Nat.le_refl _, by show m ≤ _; omega, Or.inr (by show i < tm d L m; omega)⟩
theorem pk_in {d L i : Nat} (hd : d < 4) (hL : L < 9) (hi : i < cnt (d + 1) L) : SS d L (pk d L i).1 + (pk d L i).2 = i ∧ (pk d L i).1 ≤ 2 * L ∧ (pk d L i).2 < tm d L (pk d L i).1 := by
  obtain ⟨h1, _, h3, h4⟩ := pk_spec (d := d) (L := L) (2 * L) 0 i (by omega)
  have e0 : SS d L 0 = 0 := rfl
  unfold pk
  refine ⟨by omega, h3, ?_⟩
  rcases h4 with e | e
  · have := SS_all d hd L hL
    rw [SS_succ] at this
    rw [e] at h1 ⊢
    omega
  · exact e
/-- The number of pulses, and the pulses of a number. -/
def idx : List Int → Nat → Nat
  | [], _ => 0
  | x :: r, L => SS r.length L (x + L).toNat + idx r (L - x.natAbs)
def atL : Nat → Nat → Nat → List Int
  | 0, _, _ => []
  | d + 1, L, i => (((pk d L i).1 : Int) - L) :: atL d (L - (((pk d L i).1 : Int) - L).natAbs) (pk d L i).2
theorem atL_len : ∀ (d L i : Nat), (atL d L i).length = d
  | 0, _, _ => rfl
  | d + 1, L, i => by show (atL d _ _).length + 1 = d + 1; rw [atL_len d]
/-- Right pulses: the norm. -/
def nmN : List Int → Nat
  | [] => 0
  | x :: r => x.natAbs + nmN r
theorem nmN_sum : ∀ l : List Int, (nmN l : Int) = sumAbs l
  | [] => rfl
  | x :: r => by
    have := nmN_sum r
    show ((x.natAbs + nmN r : Nat) : Int) = _
    unfold sumAbs at *
    simp only [List.map_cons, List.sum_cons]
    rw [← this]
    have := absV_bd x
    unfold absV
    split <;> omega
theorem idx_lt : ∀ (l : List Int) (L : Nat), nmN l = L → l.length < 5 → L < 9 → idx l L < cnt l.length L
  | [], L, h, _, _ => by
    have : L = 0 := h.symm
    subst this
    decide
  | x :: r, L, h, hd, hL => by
    have hx : x.natAbs + nmN r = L := h
    have hr := idx_lt r (L - x.natAbs) (by omega) (by simp at hd; omega) (by omega)
    have ht : tm r.length L (x + L).toNat = cnt r.length (L - x.natAbs) := tm_at (by omega) (by omega)
    have hs := SS_all r.length (by simp at hd; omega) L hL
    have hm := SS_mono (d := r.length) (L := L) (show (x + L).toNat + 1 ≤ 2 * L + 1 by omega)
    rw [SS_succ] at hm
    show SS r.length L (x + L).toNat + idx r (L - x.natAbs) < cnt (r.length + 1) L
    omega
theorem at_idx : ∀ (l : List Int) (L : Nat), nmN l = L → l.length < 5 → L < 9 → atL l.length L (idx l L) = l
  | [], _, _, _, _ => rfl
  | x :: r, L, h, hd, hL => by
    have hx : x.natAbs + nmN r = L := h
    have hd4 : r.length < 4 := by simp at hd; omega
    have hr := idx_lt r (L - x.natAbs) (by omega) (by omega) (by omega)
    have ht : tm r.length L (x + L).toNat = cnt r.length (L - x.natAbs) := tm_at (by omega) (by omega)
    obtain ⟨p1, p2, p3⟩ := pk_in (d := r.length) hd4 hL (idx_lt (x :: r) L h hd hL)
    have e : idx (x :: r) L = SS r.length L (x + L).toNat + idx r (L - x.natAbs) := rfl
    have hm : (pk r.length L (idx (x :: r) L)).1 = (x + L).toNat := by
      rcases Nat.lt_trichotomy (pk r.length L (idx (x :: r) L)).1 (x + L).toNat with q | q | q
      · have := SS_mono (d := r.length) (L := L) (show (pk r.length L (idx (x :: r) L)).1 + 1 ≤ (x + L).toNat by omega)
        rw [SS_succ] at this
        omega
      · exact q
      · have := SS_mono (d := r.length) (L := L) (show (x + L).toNat + 1 ≤ (pk r.length L (idx (x :: r) L)).1 by omega)
        rw [SS_succ] at this
        omega
    have hi : (pk r.length L (idx (x :: r) L)).2 = idx r (L - x.natAbs) := by rw [hm] at p1; omega
    have hv : ((x + L).toNat : Int) - L = x := by omega
    show (((pk r.length L (idx (x :: r) L)).1 : Int) - L) :: atL r.length (L - (((pk r.length L (idx (x :: r) L)).1 : Int) - L).natAbs) (pk r.length L (idx (x :: r) L)).2 = x :: r
    rw [hm, hi, hv, at_idx r (L - x.natAbs) (by omega) (by omega) (by omega)]
theorem idx_at : ∀ (d L i : Nat), d < 5 → L < 9 → i < cnt d L → nmN (atL d L i) = L ∧ idx (atL d L i) L = i
  | 0, L, i, _, _, hi => by
    have : cnt 0 L = if L = 0 then 1 else 0 := rfl
    rw [this] at hi
    split at hi
    · rename_i h; subst h; exact ⟨rfl, by show 0 = i; omega⟩
    · omega
  | d + 1, L, i, hd, hL, hi => by
    obtain ⟨p1, p2, p3⟩ := pk_in (by omega) hL hi
    have he : atL (d + 1) L i = (((pk d L i).1 : Int) - L) :: atL d (L - (((pk d L i).1 : Int) - L).natAbs) (pk d L i).2 := rfl
    obtain ⟨x, hx⟩ : ∃ x : Int, ((pk d L i).1 : Int) - L = x := ⟨_, rfl⟩
    rw [he, hx]
    have hm : (pk d L i).1 = (x + L).toNat := by omega
    have ht : tm d L (x + L).toNat = cnt d (L - x.natAbs) := tm_at (by omega) (by omega)
    rw [hm, ht] at p3
    obtain ⟨g1, g2⟩ := idx_at d (L - x.natAbs) (pk d L i).2 (by omega) (by omega) p3
    refine ⟨?_, ?_⟩
    · show x.natAbs + nmN _ = L
      rw [g1]; omega
    · show SS (atL d (L - x.natAbs) (pk d L i).2).length L (x + L).toNat + idx (atL d (L - x.natAbs) (pk d L i).2) (L - x.natAbs) = i
      rw [atL_len, g2, ← hm]; exact p1
/-- The common answers. -/
def pdB (d : Int) : Bool := inB 1 4 d
def pkB (k : Int) : Bool := inB 0 8 k
def cpO (d k : Int) : Bool := pdB d && pkB k
def ctV (d k : Int) : Int := (cnt d.toNat k.toNat : Int)
def cpC (d k : Int) : Int := if cpO d k = true then 0 else 3
def cpV (d k : Int) : Int := if cpO d k = true then ctV d k else 0
def rgt (l : List Int) (k : Int) : Bool := l.all (inB (-k) k) && decide (sumAbs l = k)
def pfC (l : List Int) (k : Int) : Int := if 1 ≤ l.length ∧ l.length ≤ 4 then (if pkB k = true then (if rgt l k = true then 0 else 1) else 3) else 2
def ixV (l : List Int) (k : Int) : Int := (idx l k.toNat : Int)
def ipV (l : List Int) (k : Int) : Int := if pfC l k = 0 then ixV l k else 0
def plO (d k i : Int) : Bool := cpO d k && inB 0 (ctV d k - 1) i
def plC (d k i : Int) : Int := if plO d k i = true then 0 else 3
def plL (d k i : Int) : List Int := if plO d k i = true then atL d.toNat k.toNat i.toNat else []
def npI (l : List Int) (k : Int) : Int := ixV l k + 1
def npC (l : List Int) (k : Int) : Int := if pfC l k = 0 then (if plC l.length k (npI l k) = 0 then 0 else 4) else pfC l k
def npL (l : List Int) (k : Int) : List Int := if npC l k = 0 then plL l.length k (npI l k) else []
theorem pf_yes {l : List Int} {k : Int} (h : pfC l k = 0) : 1 ≤ l.length ∧ l.length ≤ 4 ∧ 0 ≤ k ∧ k ≤ 8 ∧ nmN l = k.toNat ∧ rgt l k = true := by
  unfold pfC at h
  by_cases h1 : 1 ≤ l.length ∧ l.length ≤ 4
  · rw [if_pos h1] at h
    by_cases h2 : pkB k = true
    · rw [if_pos h2] at h
      by_cases h3 : rgt l k = true
      · have hk := of_inB h2
        have hs : sumAbs l = k := by unfold rgt at h3; simp at h3; exact h3.2
        have := nmN_sum l
        exact ⟨h1.1, h1.2, hk.1, hk.2, by omega, h3⟩
      · rw [if_neg h3] at h; omega
    · rw [if_neg h2] at h; omega
  · rw [if_neg h1] at h; omega
theorem abs_le_nm : ∀ (l : List Int) (x : Int), x ∈ l → x.natAbs ≤ nmN l
  | [], _, h => by simp at h
  | y :: r, x, h => by
    show _ ≤ y.natAbs + nmN r
    rcases List.mem_cons.1 h with rfl | h
    · omega
    · have := abs_le_nm r x h; omega
theorem pf_of {l : List Int} {k : Int} (h1 : 1 ≤ l.length) (h2 : l.length ≤ 4) (hk : 0 ≤ k ∧ k ≤ 8) (hn : nmN l = k.toNat) : pfC l k = 0 := by
  have hr : rgt l k = true := by
    unfold rgt
    have hs := nmN_sum l
    rw [decide_eq_true (by omega), Bool.and_true, List.all_eq_true]
    intro x hx
    have := abs_le_nm l x hx
    exact inB_yes (by omega) (by omega)
  unfold pfC
  rw [if_pos ⟨h1, h2⟩, if_pos (show pkB k = true from inB_yes hk.1 hk.2), if_pos hr]
theorem pl_yes {d k i : Int} (h : plC d k i = 0) : 1 ≤ d ∧ d ≤ 4 ∧ 0 ≤ k ∧ k ≤ 8 ∧ 0 ≤ i ∧ i < ctV d k ∧ plL d k i = atL d.toNat k.toNat i.toNat := by
  cases e : plO d k i
  · unfold plC at h; rw [if_neg (by rw [e]; decide)] at h; omega
  · have e2 := e
    unfold plO cpO at e2
    simp at e2
    have a := of_inB e2.1.1
    have b := of_inB e2.1.2
    have c := of_inB e2.2
    exact ⟨a.1, a.2, b.1, b.2, c.1, by omega, if_pos e⟩
theorem pl_of {d k i : Int} (h : 1 ≤ d ∧ d ≤ 4) (hk : 0 ≤ k ∧ k ≤ 8) (hi : 0 ≤ i ∧ i < ctV d k) : plC d k i = 0 := by
  have : plO d k i = true := by
    unfold plO cpO
    rw [show pdB d = true from inB_yes h.1 h.2, show pkB k = true from inB_yes hk.1 hk.2, show inB 0 (ctV d k - 1) i = true from inB_yes hi.1 (by omega)]; rfl
  exact if_pos this
/-- The laws. -/
theorem at_law {d k i : Int} (h : plC d k i = 0) : pfC (plL d k i) k = 0 ∧ ipV (plL d k i) k = i ∧ ((plL d k i).length : Int) = d := by
  obtain ⟨d1, d2, k1, k2, i1, i2, e⟩ := pl_yes h
  unfold ctV at i2
  obtain ⟨g1, g2⟩ := idx_at d.toNat k.toNat i.toNat (by omega) (by omega) (by omega)
  have hl := atL_len d.toNat k.toNat i.toNat
  rw [e]
  have hp : pfC (atL d.toNat k.toNat i.toNat) k = 0 := pf_of (by omega) (by omega) ⟨k1, k2⟩ g1
  refine ⟨hp, ?_, by omega⟩
  unfold ipV ixV
  rw [if_pos hp, g2]; omega
theorem pulses_law {l : List Int} {k : Int} (h : pfC l k = 0) : cpC l.length k = 0 ∧ cpV l.length k = ctV l.length k ∧ 0 ≤ ipV l k ∧ ipV l k < ctV l.length k ∧ ctV l.length k ≤ 100000 ∧ plC l.length k (ipV l k) = 0 ∧ plL l.length k (ipV l k) = l ∧
    (npC l k = 0 → pfC (npL l k) k = 0 ∧ ipV (npL l k) k = ipV l k + 1 ∧ (npL l k).length = l.length) ∧ ((npC l k = 0) ↔ ipV l k + 1 < ctV l.length k) := by
  obtain ⟨d1, d2, k1, k2, hn, _⟩ := pf_yes h
  have hlt := idx_lt l k.toNat hn (by omega) (by omega)
  have hat := at_idx l k.toNat hn (by omega) (by omega)
  have hsm := (cnt_small l.length (by omega) k.toNat (by omega)).1
  have hcp : cpO l.length k = true := by unfold cpO; rw [show pdB (l.length : Int) = true from inB_yes (by omega) (by omega), show pkB k = true from inB_yes k1 k2]; rfl
  have hi : ipV l k = (idx l k.toNat : Int) := if_pos h
  have hct : ctV l.length k = (cnt l.length k.toNat : Int) := rfl
  have hni : npI l k = ipV l k + 1 := by rw [hi]; rfl
  have hnp : npC l k = if plC l.length k (npI l k) = 0 then 0 else 4 := if_pos h
  have hpl : plC l.length k (ipV l k) = 0 := pl_of (by omega) ⟨k1, k2⟩ (by omega)
  refine ⟨if_pos hcp, if_pos hcp, by omega, by omega, by omega, hpl, ?_, ?_, ?_⟩
  · rw [(pl_yes hpl).2.2.2.2.2.2, hi]
    exact hat
  · intro hz
    have hp2 : plC l.length k (npI l k) = 0 := by
      rw [hnp] at hz
      by_cases q : plC l.length k (npI l k) = 0
      · exact q
      · rw [if_neg q] at hz; omega
    have hL : npL l k = plL l.length k (npI l k) := if_pos hz
    obtain ⟨g1, g2, g3⟩ := at_law hp2
    rw [hL]
    exact ⟨g1, by rw [g2, hni], by omega⟩
  · constructor
    · intro hz
      rw [hnp] at hz
      by_cases q : plC l.length k (npI l k) = 0
      · have := (pl_yes q).2.2.2.2.2.1
        omega
      · rw [if_neg q] at hz; omega
    · intro hz
      have q : plC l.length k (npI l k) = 0 := pl_of (by omega) ⟨k1, k2⟩ (by omega)
      rw [hnp, if_pos q]
/-- How many there are. -/
theorem counts_law {d k : Int} (h : cpC d k = 0) : cpV d k = ctV d k ∧ 1 ≤ d ∧ d ≤ 4 ∧ 0 ≤ k ∧ k ≤ 8 ∧ 0 ≤ ctV d k ∧ ctV d k ≤ 100000 ∧ (k = 0 → ctV d k = 1) ∧ (k ≠ 0 → d = 1 → ctV d k = 2) ∧
    (k ≠ 0 → d ≠ 1 → ctV d k = cpV (d - 1) k + cpV d (k - 1) + cpV (d - 1) (k - 1)) := by
  cases e : cpO d k
  · unfold cpC at h; rw [if_neg (by rw [e]; decide)] at h; omega
  · have hv : cpV d k = ctV d k := if_pos e
    unfold cpO at e
    simp at e
    have a := of_inB e.1
    have b := of_inB e.2
    have hs := (cnt_small d.toNat (by omega) k.toNat (by omega)).1
    refine ⟨hv, a.1, a.2, b.1, b.2, by unfold ctV; omega, by unfold ctV; omega, ?_, ?_, ?_⟩
    · rintro rfl
      unfold ctV
      rw [show (0 : Int).toNat = 0 from rfl, cnt_none d.toNat (by omega)]; rfl
    · intro hk hd
      subst hd
      unfold ctV
      rw [show (1 : Int).toNat = 1 from rfl, cnt_one k.toNat (by omega) (by omega)]; rfl
    · intro hk hd
      have hr := cnt_rec d.toNat (by omega) k.toNat (by omega) (by omega) (by omega)
      have v : ∀ x y : Int, 1 ≤ x → x ≤ 4 → 0 ≤ y → y ≤ 8 → cpV x y = ctV x y := fun x y h1 h2 h3 h4 => if_pos (by unfold cpO; rw [show pdB x = true from inB_yes h1 h2, show pkB y = true from inB_yes h3 h4]; rfl)
      rw [v _ _ (by omega) (by omega) (by omega) (by omega), v _ _ (by omega) (by omega) (by omega) (by omega), v _ _ (by omega) (by omega) (by omega) (by omega)]
      unfold ctV
      rw [show (d - 1).toNat = d.toNat - 1 by omega, show (k - 1).toNat = k.toNat - 1 by omega]
      omega
theorem np_len (l : List Int) (k : Int) : (npL l k).length ≤ 4 := by
  unfold npL
  split
  · rename_i h
    by_cases hp : pfC l k = 0
    · have hnp : npC l k = if plC l.length k (npI l k) = 0 then 0 else 4 := if_pos hp
      rw [hnp] at h
      by_cases q : plC l.length k (npI l k) = 0
      · have := (at_law q).2.2
        have := (pl_yes q).2.1
        omega
      · rw [if_neg q] at h; omega
    · unfold npC at h; rw [if_neg hp] at h; omega
  · simp
theorem pl_len (d k i : Int) : (plL d k i).length ≤ 4 := by
  by_cases q : plC d k i = 0
  · have := (at_law q).2.2
    have := (pl_yes q).2.1
    omega
  · unfold plL
    rw [if_neg (by intro e; exact q (if_pos e))]; simp
end Go.Proofs.Ytbbejjlgfekipaa.PulM
