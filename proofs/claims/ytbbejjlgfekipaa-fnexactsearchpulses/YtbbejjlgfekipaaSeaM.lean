/- The mathematics of searches: rests stand in one order, what lacks goes to the first of them, all pulses together are k, and the shape is near. No program is spoken of. -/
import Derived.Test.YtbbejjlgfekipaaShaM
namespace Go.Proofs.Ytbbejjlgfekipaa.SeaM
open Go.ChangeShapes Go.WideShapes Go.ChangeAt Go.RowKit Go.Proofs.Ytbbejjlgfekipaa.Num Go.Proofs.Ytbbejjlgfekipaa.Div Go.Proofs.Ytbbejjlgfekipaa.Norm Go.Proofs.Ytbbejjlgfekipaa.HalM Go.Proofs.Ytbbejjlgfekipaa.LadM Go.Proofs.Ytbbejjlgfekipaa.PulM Go.Proofs.Ytbbejjlgfekipaa.ShaM

/-- Counting. -/
theorem cnt_congr : ∀ {n : Nat} {P Q : Nat → Bool}, (∀ j, j < n → P j = Q j) → cntL n P = cntL n Q
  | 0, _, _, _ => rfl
  | n + 1, P, Q, h => by
    show cntL n P + _ = cntL n Q + _
    rw [cnt_congr (fun j hj => h j (by omega)), h n (by omega)]
theorem cnt_le : ∀ {n : Nat} {P Q : Nat → Bool}, (∀ j, j < n → P j = true → Q j = true) → cntL n P ≤ cntL n Q
  | 0, _, _, _ => Nat.le_refl _
  | n + 1, P, Q, h => by
    show cntL n P + _ ≤ cntL n Q + _
    have h1 := cnt_le (n := n) (P := P) (Q := Q) (fun j hj => h j (by omega))
    have h2 := h n (by omega)
    by_cases q : P n = true
    · rw [if_pos q, if_pos (h2 q)]; omega
    · rw [if_neg q]; omega
theorem cnt_ins : ∀ {n : Nat} {P : Nat → Bool} {i : Nat}, i < n → P i = false → cntL n (fun j => P j || decide (j = i)) = cntL n P + 1
  | 0, _, _, h, _ => by omega
  | n + 1, P, i, h, hp => by
    show cntL n _ + (if (P n || decide (n = i)) = true then 1 else 0) = cntL n P + (if P n = true then 1 else 0) + 1
    by_cases e : n = i
    · subst e
      have : cntL n (fun j => P j || decide (j = n)) = cntL n P := cnt_congr (fun j hj => by rw [decide_eq_false (by omega), Bool.or_false])
      rw [this, hp]; simp
    · rw [cnt_ins (by omega) hp, decide_eq_false e, Bool.or_false]; omega
theorem cnt_lt {n : Nat} {P Q : Nat → Bool} {i : Nat} (h : ∀ j, j < n → P j = true → Q j = true) (hi : i < n) (h1 : P i = false) (h2 : Q i = true) : cntL n P < cntL n Q := by
  have h3 := cnt_ins hi h1
  have h4 := cnt_le (n := n) (P := fun j => P j || decide (j = i)) (Q := Q) (fun j hj e => by
    simp at e
    rcases e with e | e
    · exact h j hj e
    · rw [e]; exact h2)
  omega
theorem cnt_bd : ∀ (n : Nat) (P : Nat → Bool), cntL n P ≤ n
  | 0, _ => Nat.le_refl _
  | n + 1, P => by
    have := cnt_bd n P
    show cntL n P + _ ≤ n + 1
    split <;> omega
theorem cnt_some : ∀ {n : Nat} {P : Nat → Bool}, cntL n P < n → ∃ i, i < n ∧ P i = false
  | 0, _, h => by omega
  | n + 1, P, h => by
    by_cases q : P n = true
    · have : cntL n P + (if P n = true then 1 else 0) < n + 1 := h
      rw [if_pos q] at this
      obtain ⟨i, h1, h2⟩ := cnt_some (n := n) (P := P) (by omega)
      exact ⟨i, by omega, h2⟩
    · exact ⟨n, by omega, by cases e : P n; rfl; exact absurd e q⟩
/-- The order of rests. -/
theorem bef_irr (r : Nat → Int) (i : Nat) : bef r i i = false := by unfold bef; simp
theorem bef_tot (r : Nat → Int) {i j : Nat} (h : i ≠ j) : bef r i j = true ∨ bef r j i = true := by
  unfold bef
  simp only [Bool.or_eq_true, Bool.and_eq_true, decide_eq_true_eq]
  omega
theorem bef_asy (r : Nat → Int) {i j : Nat} (h : bef r i j = true) : bef r j i = false := by
  cases q : bef r j i
  · rfl
  · unfold bef at h q
    simp only [Bool.or_eq_true, Bool.and_eq_true, decide_eq_true_eq] at h q
    omega
theorem bef_tra (r : Nat → Int) {i j k : Nat} (h1 : bef r i j = true) (h2 : bef r j k = true) : bef r i k = true := by
  unfold bef at *
  simp only [Bool.or_eq_true, Bool.and_eq_true, decide_eq_true_eq] at *
  omega
theorem rk_lt {n : Nat} {r : Nat → Int} {i j : Nat} (hi : i < n) (h : bef r i j = true) : rkN n r i < rkN n r j :=
  cnt_lt (i := i) (fun _ _ hm => bef_tra r hm h) hi (bef_irr r i) h
theorem rk_inj {n : Nat} {r : Nat → Int} {i j : Nat} (hi : i < n) (hj : j < n) (h : rkN n r i = rkN n r j) : i = j := by
  by_cases e : i = j
  · exact e
  · rcases bef_tot r e with q | q
    · have := rk_lt hi q; omega
    · have := rk_lt hj q; omega
/-- The first of those that are left. -/
def bsF (r : Nat → Int) (d : Nat → Bool) : Nat → Int
  | 0 => -1
  | i + 1 => if (!d i && (decide (bsF r d i < 0) || decide (r (bsF r d i).toNat < r i))) = true then (i : Int) else bsF r d i
theorem bs_spec (r : Nat → Int) (d : Nat → Bool) : ∀ i, (bsF r d i = -1 ∧ ∀ j, j < i → d j = true) ∨ ∃ b : Nat, bsF r d i = (b : Int) ∧ b < i ∧ d b = false ∧ ∀ j, j < i → d j = false → j ≠ b → bef r b j = true
  | 0 => .inl ⟨rfl, fun j hj => by omega⟩
  | i + 1 => by
    have e : bsF r d (i + 1) = if (!d i && (decide (bsF r d i < 0) || decide (r (bsF r d i).toNat < r i))) = true then (i : Int) else bsF r d i := rfl
    rcases bs_spec r d i with ⟨h1, h2⟩ | ⟨b, h1, h2, h3, h4⟩
    · cases hd : d i
      · refine .inr ⟨i, ?_, by omega, hd, fun j hj hj2 hne => ?_⟩
        · rw [e, hd, h1]; rfl
        · have := h2 j (by omega); rw [this] at hj2; cases hj2
      · refine .inl ⟨by rw [e, hd]; exact h1, fun j hj => ?_⟩
        by_cases q : j = i
        · rw [q]; exact hd
        · exact h2 j (by omega)
    · cases hd : d i
      · by_cases hr : r b < r i
        · refine .inr ⟨i, ?_, by omega, hd, fun j hj hj2 hne => ?_⟩
          · rw [e, hd, h1, Int.toNat_natCast, decide_eq_true hr]; simp
          · by_cases q : j = b
            · subst q; unfold bef; simp [hr]
            · have h5 := h4 j (by omega) hj2 q
              refine bef_tra r ?_ h5
              unfold bef; simp [hr]
        · refine .inr ⟨b, ?_, by omega, h3, fun j hj hj2 hne => ?_⟩
          · rw [e, hd, h1, Int.toNat_natCast, decide_eq_false hr, decide_eq_false (by omega)]; rfl
          · by_cases q : j = i
            · subst q
              unfold bef
              simp only [Bool.or_eq_true, Bool.and_eq_true, decide_eq_true_eq]
              omega
            · exact h4 j (by omega) hj2 hne
      · refine .inr ⟨b, by rw [e, hd]; exact h1, by omega, h3, fun j hj hj2 hne => ?_⟩
        by_cases q : j = i
        · rw [q, hd] at hj2; cases hj2
        · exact h4 j (by omega) hj2 hne
/-- Those ahead are as many as is asked for. -/
theorem pick_rk {n : Nat} {r : Nat → Int} {t : Nat} (hc : cntL n (fun i => decide (rkN n r i < t)) = t) (ht : t < n) : ∃ b : Nat, bsF r (fun i => decide (rkN n r i < t)) n = (b : Int) ∧ b < n ∧ rkN n r b = t := by
  rcases bs_spec r (fun i => decide (rkN n r i < t)) n with ⟨_, h2⟩ | ⟨b, h1, h2, h3, h4⟩
  · obtain ⟨i, hi, hf⟩ := cnt_some (n := n) (P := fun i => decide (rkN n r i < t)) (by omega)
    have := h2 i hi
    simp only [decide_eq_true_eq, decide_eq_false_iff_not] at this hf
    omega
  · refine ⟨b, h1, h2, ?_⟩
    simp only [decide_eq_false_iff_not] at h3
    have : rkN n r b = cntL n (fun i => decide (rkN n r i < t)) := by
      refine cnt_congr (fun j hj => ?_)
      by_cases q : j = b
      · subst q; rw [bef_irr, decide_eq_false h3]
      · by_cases q2 : rkN n r j < t
        · rw [decide_eq_true q2]
          rcases bef_tot r q with e | e
          · exact e
          · have := rk_lt h2 e; omega
        · rw [decide_eq_false q2]
          exact bef_asy r (h4 j hj (decide_eq_false q2) q)
    omega
theorem pick_cnt (n : Nat) (r : Nat → Int) : ∀ t, t ≤ n → cntL n (fun i => decide (rkN n r i < t)) = t
  | 0, _ => by
    have : ∀ m, cntL m (fun i => decide (rkN n r i < 0)) = 0 := by
      intro m
      induction m with
      | zero => rfl
      | succ m ih => show cntL m _ + _ = 0; rw [ih]; simp
    exact this n
  | t + 1, h => by
    have h1 := pick_cnt n r t (by omega)
    obtain ⟨b, _, hb, hr⟩ := pick_rk h1 (by omega)
    have h2 := cnt_ins (P := fun i => decide (rkN n r i < t)) hb (decide_eq_false (by omega))
    rw [h1] at h2
    rw [← h2]
    refine cnt_congr (fun j hj => ?_)
    by_cases q : j = b
    · subst q; rw [decide_eq_true (by omega)]; simp
    · have : rkN n r j ≠ t := fun e => q (rk_inj (n := n) (r := r) hj hb (by omega))
      rw [decide_eq_false q, Bool.or_false]
      by_cases q2 : rkN n r j < t
      · rw [decide_eq_true q2, decide_eq_true (by omega)]
      · rw [decide_eq_false q2, decide_eq_false (by omega)]
/-- What searches tell. -/
theorem smF_abs (l : List Int) : ∀ m, m ≤ l.length → smF (fun i => absV (l.getD i 0)) m = sumAbs (l.take m)
  | 0, _ => rfl
  | m + 1, h => by
    show smF _ m + absV (l.getD m 0) = _
    rw [smF_abs l m (by omega), sum_snoc l m (by omega)]
theorem nrm_sum (l : List Int) : smF (fun i => absV (l.getD i 0)) l.length = nrm l := by
  rw [smF_abs l _ (Nat.le_refl _), List.take_length]; rfl
theorem nrm_pos (l : List Int) : 0 ≤ nrm l := by
  have := nmN_sum l
  unfold nrm; omega
theorem split_at (l : List Int) (k : Int) (i : Nat) (hT : 0 < nrm l) : k * absV (l.getD i 0) = nrm l * bsV l k i + rsV l k i ∧ 0 ≤ rsV l k i ∧ rsV l k i < nrm l :=
  ⟨(Int.mul_ediv_add_emod _ _).symm, Int.emod_nonneg _ (by omega), Int.emod_lt_of_pos _ hT⟩
theorem split_sum (l : List Int) (k : Int) (hT : 0 < nrm l) : ∀ m, k * smF (fun i => absV (l.getD i 0)) m = nrm l * smF (bsV l k) m + smF (rsV l k) m ∧ 0 ≤ smF (rsV l k) m ∧ smF (rsV l k) m ≤ m * nrm l ∧ (0 < m → smF (rsV l k) m < m * nrm l)
  | 0 => by simp [smF]
  | m + 1 => by
    obtain ⟨h1, h2, h3, h4⟩ := split_sum l k hT m
    obtain ⟨g1, g2, g3⟩ := split_at l k m hT
    have e1 : smF (fun i => absV (l.getD i 0)) (m + 1) = smF (fun i => absV (l.getD i 0)) m + absV (l.getD m 0) := rfl
    have e2 : smF (bsV l k) (m + 1) = smF (bsV l k) m + bsV l k m := rfl
    have e3 : smF (rsV l k) (m + 1) = smF (rsV l k) m + rsV l k m := rfl
    have e4 : ((m + 1 : Nat) : Int) * nrm l = m * nrm l + nrm l := by rw [show ((m + 1 : Nat) : Int) = (m : Int) + 1 by omega, Int.add_mul, Int.one_mul]
    rw [e1, e2, e3, e4, Int.mul_add, Int.mul_add, h1, g1]
    refine ⟨?_, by omega, by omega, fun _ => by omega⟩
    generalize nrm l * smF (bsV l k) m = a
    generalize nrm l * bsV l k m = b
    omega
theorem left_bd (l : List Int) (k : Int) (hT : 0 < nrm l) (hl : 0 < l.length) : 0 ≤ lfV l k ∧ lfV l k < l.length := by
  obtain ⟨h1, h2, _, h4⟩ := split_sum l k hT l.length
  rw [nrm_sum] at h1
  have h5 := h4 hl
  have e : nrm l * lfV l k = smF (rsV l k) l.length := by
    unfold lfV
    rw [Int.mul_sub, Int.mul_comm (nrm l) k, h1]; omega
  constructor
  · refine Int.le_of_mul_le_mul_left (a := nrm l) ?_ hT
    rw [e, Int.mul_zero]; exact h2
  · refine Int.lt_of_mul_lt_mul_left (a := nrm l) ?_ (by omega)
    rw [e, Int.mul_comm (nrm l)]; exact h5
theorem bs_pos (l : List Int) (k : Int) (hk : 0 ≤ k) (i : Nat) : 0 ≤ bsV l k i := Int.ediv_nonneg (Int.mul_nonneg hk (absV_bd _).1) (nrm_pos l)
theorem up_sum (l : List Int) (k : Int) (t : Nat) (ht : lfV l k = (t : Int)) : ∀ m, smF (upV l k) m = smF (bsV l k) m + (cntL m (fun i => decide (rkN l.length (rsV l k) i < t)) : Nat)
  | 0 => rfl
  | m + 1 => by
    have e1 : smF (upV l k) (m + 1) = smF (upV l k) m + upV l k m := rfl
    have e2 : smF (bsV l k) (m + 1) = smF (bsV l k) m + bsV l k m := rfl
    have e3 : cntL (m + 1) (fun i => decide (rkN l.length (rsV l k) i < t)) = cntL m (fun i => decide (rkN l.length (rsV l k) i < t)) + (if decide (rkN l.length (rsV l k) m < t) = true then 1 else 0) := rfl
    rw [e1, e2, e3, up_sum l k t ht m]
    unfold upV
    rw [ht]
    by_cases q : rkN l.length (rsV l k) m < t
    · rw [decide_eq_true q, if_pos (by omega), if_pos rfl]; omega
    · rw [decide_eq_false q, if_neg (by omega), if_neg (by decide)]; omega
theorem up_all (l : List Int) (k : Int) (hT : 0 < nrm l) (hl : 0 < l.length) : smF (upV l k) l.length = k := by
  obtain ⟨h0, h1⟩ := left_bd l k hT hl
  obtain ⟨t, ht⟩ := Int.eq_ofNat_of_zero_le h0
  rw [up_sum l k t ht, pick_cnt l.length (rsV l k) t (by omega), ← ht]
  unfold lfV; omega
theorem smF_ge {f : Nat → Int} (hf : ∀ i, 0 ≤ f i) : ∀ {m i : Nat}, i < m → f i ≤ smF f m
  | 0, _, h => by omega
  | m + 1, i, h => by
    show _ ≤ smF f m + f m
    have h0 : ∀ n, 0 ≤ smF f n := by
      intro n
      induction n with
      | zero => exact Int.le_refl _
      | succ n ih => show 0 ≤ smF f n + f n; have := hf n; omega
    by_cases e : i = m
    · subst e; have := h0 i; omega
    · have := smF_ge hf (m := m) (i := i) (by omega)
      have := hf m
      omega
theorem up_bd (l : List Int) (k : Int) (hk : 0 ≤ k) (hT : 0 < nrm l) (hl : 0 < l.length) (i : Nat) (hi : i < l.length) : 0 ≤ upV l k i ∧ upV l k i ≤ k := by
  have hf : ∀ j, 0 ≤ upV l k j := fun j => by
    have := bs_pos l k hk j
    unfold upV; split <;> omega
  have := smF_ge hf hi
  rw [up_all l k hT hl] at this
  exact ⟨hf i, this⟩
theorem sg_abs {x v : Int} (h : 0 ≤ v) : absV (sgV x v) = v := by unfold sgV absV; split <;> split <;> omega
theorem smF_mk (f : Nat → Int) : ∀ (n m : Nat), m ≤ n → smF (fun i => absV ((mkL n f).getD i 0)) m = smF (fun i => absV (f i)) m
  | _, 0, _ => rfl
  | n, m + 1, h => by
    show smF _ m + absV ((mkL n f).getD m 0) = smF _ m + absV (f m)
    rw [smF_mk f n m (by omega), mkL_get _ (by omega)]
theorem sum_mk (f : Nat → Int) (n : Nat) : sumAbs (mkL n f) = smF (fun i => absV (f i)) n := by
  have h := nrm_sum (mkL n f)
  rw [mkL_len, smF_mk f n n (Nat.le_refl _)] at h
  exact h.symm
theorem smF_congr {f g : Nat → Int} : ∀ {m : Nat}, (∀ i, i < m → f i = g i) → smF f m = smF g m
  | 0, _ => rfl
  | m + 1, h => by
    show smF f m + f m = smF g m + g m
    rw [smF_congr (fun i hi => h i (by omega)), h m (by omega)]
theorem sr_yes {l : List Int} {k : Int} (h : srC l k = 0) : 1 ≤ l.length ∧ l.length ≤ 4 ∧ 1 ≤ k ∧ k ≤ 8 ∧ l.all coB = true ∧ srL l k = mkL l.length (srE l k) := by
  have hL : srL l k = mkL l.length (srE l k) := if_pos h
  unfold srC at h
  by_cases h1 : 1 ≤ l.length ∧ l.length ≤ 4
  · rw [if_pos h1] at h
    by_cases h2 : srO l k = true
    · unfold srO at h2
      simp only [Bool.and_eq_true] at h2
      have := of_inB h2.1
      exact ⟨h1.1, h1.2, this.1, this.2, h2.2, hL⟩
    · rw [if_neg h2] at h; omega
  · rw [if_neg h1] at h; omega
theorem sr_sum {l : List Int} {k : Int} (h : srC l k = 0) : sumAbs (srL l k) = k ∧ (srL l k).length = l.length := by
  obtain ⟨l1, l4, k1, k8, _, e⟩ := sr_yes h
  rw [e]
  refine ⟨?_, mkL_len _ _⟩
  rw [sum_mk]
  by_cases hT : nrm l = 0
  · obtain ⟨n, hn⟩ : ∃ n, l.length = n + 1 := ⟨l.length - 1, by omega⟩
    rw [hn]
    have key : ∀ n, smF (fun i => absV (srE l k i)) (n + 1) = k := by
      intro n
      induction n with
      | zero =>
        show 0 + absV (srE l k 0) = k
        unfold srE
        rw [if_pos hT, if_pos rfl]
        unfold absV; split <;> omega
      | succ n ih =>
        show smF (fun i => absV (srE l k i)) (n + 1) + absV (srE l k (n + 1)) = k
        rw [ih]
        unfold srE
        rw [if_pos hT, if_neg (by omega)]
        unfold absV; split <;> omega
    exact key n
  · have hp : 0 < nrm l := by have := nrm_pos l; omega
    refine Eq.trans (smF_congr (fun i hi => ?_)) (up_all l k hp (by omega))
    unfold srE
    rw [if_neg hT, sg_abs (up_bd l k (by omega) hp (by omega) i hi).1]
theorem sr_fault {l : List Int} {k : Int} (h : srC l k = 0) : pfC (srL l k) k = 0 := by
  obtain ⟨h1, h2⟩ := sr_sum h
  obtain ⟨l1, l4, k1, k8, _, _⟩ := sr_yes h
  have := nmN_sum (srL l k)
  exact pf_of (by omega) (by omega) ⟨by omega, k8⟩ (by omega)
theorem near_core {u k T m g gap : Int} (hk : 1 ≤ k) (hu : 0 ≤ u ∧ u ≤ k) (h1 : -T ≤ T * u - k * m ∧ T * u - k * m ≤ T) (h2 : -gap ≤ g - T ∧ g - T ≤ gap) (hg : 0 ≤ gap) :
    absV (nearV (g * u) k - m) ≤ ceilV T k + gap + 1 := by
  have hn := near_off (c := g * u) (s := k) (by omega)
  have hnb := absV_bd (nearV (g * u) k * k - g * u)
  have hb := absV_bd (nearV (g * u) k - m)
  generalize nearV (g * u) k = N at *
  obtain ⟨c, hc⟩ : ∃ c, ceilV T k = c := ⟨_, rfl⟩
  have hc1 : T ≤ c * k := by
    rw [← hc]
    unfold ceilV
    have e1 := Int.mul_ediv_add_emod (T + k - 1) k
    have e2 := Int.emod_lt_of_pos (T + k - 1) (show 0 < k by omega)
    rw [Int.mul_comm] at e1
    generalize (T + k - 1) / k * k = x at *
    omega
  rw [hc]
  have d1 : (g - T) * u ≤ gap * k := by
    have a1 := Int.mul_le_mul_of_nonneg_right h2.2 hu.1
    have a2 := Int.mul_le_mul_of_nonneg_left hu.2 hg
    omega
  have d2 : -(gap * k) ≤ (g - T) * u := by
    have a1 := Int.mul_le_mul_of_nonneg_right h2.1 hu.1
    have a2 := Int.mul_le_mul_of_nonneg_left hu.2 hg
    rw [Int.neg_mul] at a1
    omega
  have e1 : (g - T) * u = g * u - T * u := Int.sub_mul g T u
  have e2 : (N - m) * k = N * k - k * m := by rw [Int.sub_mul, Int.mul_comm m k]
  have e3 : (c + gap + 1) * k = c * k + gap * k + k := by rw [Int.add_mul, Int.add_mul, Int.one_mul]
  have up : (N - m) * k ≤ (c + gap + 1) * k := by
    rw [e2, e3]
    generalize N * k = a at *
    generalize k * m = b at *
    generalize T * u = d at *
    generalize g * u = f at *
    generalize gap * k = q at *
    generalize c * k = s at *
    omega
  have lo : -((c + gap + 1) * k) ≤ (N - m) * k := by
    rw [e2, e3]
    generalize N * k = a at *
    generalize k * m = b at *
    generalize T * u = d at *
    generalize g * u = f at *
    generalize gap * k = q at *
    generalize c * k = s at *
    omega
  have up2 := Int.le_of_mul_le_mul_right up (by omega)
  have lo2 : -(c + gap + 1) ≤ N - m := by
    refine Int.le_of_mul_le_mul_right (a := k) ?_ (by omega)
    rw [Int.neg_mul]; exact lo
  omega
theorem near_neg (a b : Int) (hb : 0 < b) : nearV (-a) b = -nearV a b := by
  unfold nearV
  by_cases h : a < 0
  · rw [if_neg (by omega), if_pos h, Int.neg_neg]
  · by_cases h0 : a = 0
    · subst h0
      rw [if_neg (by omega), if_neg (by omega)]
      have : (2 * (0 : Int) + b) / (2 * b) = 0 := Int.ediv_eq_zero_of_lt (by omega) (by omega)
      rw [show (-(0 : Int)) = 0 from rfl, this]; rfl
    · rw [if_pos (by omega), if_neg h, Int.neg_neg]
theorem shape_near {l : List Int} {k g gap : Int} (h : srC l k = 0) (hg : -gap ≤ g - nrm l ∧ g - nrm l ≤ gap) (hgap : 0 ≤ gap) (i : Nat) (hi : i < l.length) :
    absV ((shL0 (srL l k) k g).getD i 0 - l.getD i 0) ≤ ceilV (nrm l) k + gap + 1 := by
  obtain ⟨l1, l4, k1, k8, _, e⟩ := sr_yes h
  have hs : (shL0 (srL l k) k g).getD i 0 = nearV (g * srE l k i) k := by
    unfold shL0
    rw [e]
    have : i < (mkL l.length (srE l k)).length := by rw [mkL_len]; exact hi
    rw [List.getD_eq_getElem?_getD, List.getElem?_map, List.getElem?_eq_getElem this]
    have h2 := mkL_get (srE l k) hi
    rw [List.getD_eq_getElem?_getD, List.getElem?_eq_getElem this] at h2
    simp only [Option.map_some, Option.getD_some] at h2 ⊢
    rw [h2]
  rw [hs]
  have hT := nrm_pos l
  by_cases hz : nrm l = 0
  · have hl0 : absV (l.getD i 0) = 0 := by
      have h1 := smF_ge (f := fun j => absV (l.getD j 0)) (fun j => (absV_bd _).1) hi
      rw [nrm_sum, hz] at h1
      have := (absV_bd (l.getD i 0)).1
      have h2 : absV (l.getD i 0) ≤ 0 := h1
      omega
    have hl : l.getD i 0 = 0 := by have := absV_bd (l.getD i 0); omega
    rw [hl]
    unfold srE
    rw [if_pos hz]
    split
    · exact near_core k1 ⟨by omega, by omega⟩ (by rw [hz]; simp) hg hgap
    · exact near_core k1 ⟨by omega, by omega⟩ (by rw [hz]; simp) hg hgap
  · have hp : 0 < nrm l := by omega
    obtain ⟨u0, u1⟩ := up_bd l k (by omega) hp (by omega) i hi
    obtain ⟨s1, s2, s3⟩ := split_at l k i hp
    have hdiff : -(nrm l) ≤ nrm l * upV l k i - k * absV (l.getD i 0) ∧ nrm l * upV l k i - k * absV (l.getD i 0) ≤ nrm l := by
      rw [s1]
      unfold upV
      split
      · rw [Int.mul_add, Int.mul_one]
        generalize nrm l * bsV l k i = x at *
        omega
      · rw [Int.add_zero]
        generalize nrm l * bsV l k i = x at *
        omega
    have hc := near_core k1 ⟨u0, u1⟩ hdiff hg hgap
    unfold srE
    rw [if_neg hz]
    unfold sgV
    by_cases hx : l.getD i 0 < 0
    · rw [if_pos hx, Int.mul_neg, near_neg _ _ (by omega)]
      have ha : absV (l.getD i 0) = -(l.getD i 0) := if_pos hx
      rw [ha] at hc
      have b1 := absV_bd (nearV (g * upV l k i) k - -(l.getD i 0))
      have b2 := absV_bd (-nearV (g * upV l k i) k - l.getD i 0)
      omega
    · rw [if_neg hx]
      have ha : absV (l.getD i 0) = l.getD i 0 := if_neg hx
      rw [ha] at hc
      exact hc
end Go.Proofs.Ytbbejjlgfekipaa.SeaM
