/- The mathematics of a heap of rests: sifting down keeps what is in it, puts the best on top; what is taken off, one behind the other, are the ranks. No program is spoken of. -/
import Derived.Test.YtbbejjlgfekipaaSeaM
namespace Go.Proofs.Ytbbejjlgfekipaa.ShaG
open Go.ChangeShapes Go.WideShapes Go.ChangeAt Go.RowKit Go.Proofs.Ytbbejjlgfekipaa.Num Go.Proofs.Ytbbejjlgfekipaa.HalM Go.Proofs.Ytbbejjlgfekipaa.ShaM Go.Proofs.Ytbbejjlgfekipaa.SeaM

abbrev B2 := Int × Int
def at2 (R : List B2) (i : Nat) : B2 := R.getD i (0, 0)
theorem at2_mem {R : List B2} {i : Nat} (h : i < R.length) : at2 R i ∈ R := by
  unfold at2
  rw [List.getD_eq_getElem?_getD, List.getElem?_eq_getElem h]; exact List.getElem_mem _
theorem mem_at2 {R : List B2} {x : B2} (h : x ∈ R) : ∃ i, i < R.length ∧ at2 R i = x := by
  obtain ⟨i, hi, e⟩ := List.getElem_of_mem h
  refine ⟨i, hi, ?_⟩
  unfold at2
  rw [List.getD_eq_getElem?_getD, List.getElem?_eq_getElem hi]; exact e
/-- Who comes first: what the program asks. -/
def bfr (a b : B2) : Bool := if a.2 = b.2 then decide (a.1 < b.1) else decide (b.2 < a.2)
def ge (a b : B2) : Prop := b.2 < a.2 ∨ (a.2 = b.2 ∧ a.1 ≤ b.1)
theorem ge_yes {a b : B2} (h : bfr a b = true) : ge a b := by
  unfold bfr at h; unfold ge
  split at h <;> simp at h <;> omega
theorem ge_no {a b : B2} (h : bfr a b = false) : ge b a := by
  unfold bfr at h; unfold ge
  split at h <;> simp at h <;> omega
theorem ge_refl (a : B2) : ge a a := .inr ⟨rfl, Int.le_refl _⟩
theorem ge_trans {a b c : B2} (h1 : ge a b) (h2 : ge b c) : ge a c := by unfold ge at *; omega
/-- Two are exchanged. -/
def sw (R : List B2) (i j : Nat) : List B2 := (R.set i (at2 R j)).set j (at2 R i)
theorem sw_len (R : List B2) (i j : Nat) : (sw R i j).length = R.length := by unfold sw; rw [List.length_set, List.length_set]
theorem sw_get {R : List B2} {i j : Nat} (hi : i < R.length) (hj : j < R.length) (k : Nat) : at2 (sw R i j) k = if k = j then at2 R i else if k = i then at2 R j else at2 R k := by
  unfold sw
  by_cases e : k = j
  · rw [if_pos e, e]
    show ((R.set i (at2 R j)).set j (at2 R i)).getD j (0, 0) = _
    rw [List.getD_eq_getElem?_getD, List.getElem?_set_self (by rw [List.length_set]; exact hj)]; rfl
  · rw [if_neg e]
    show ((R.set i (at2 R j)).set j (at2 R i)).getD k (0, 0) = _
    rw [List.getD_eq_getElem?_getD, List.getElem?_set_ne (fun q => e q.symm)]
    by_cases e2 : k = i
    · rw [if_pos e2, e2, List.getElem?_set_self hi]; rfl
    · rw [if_neg e2, List.getElem?_set_ne (fun q => e2 q.symm)]
      unfold at2; rw [List.getD_eq_getElem?_getD]
theorem sw_perm {R : List B2} {i j : Nat} (hi : i < R.length) (hj : j < R.length) : (sw R i j).Perm R := by
  have e : ∀ k (hk : k < R.length), at2 R k = R[k] := fun k hk => by unfold at2; rw [List.getD_eq_getElem?_getD, List.getElem?_eq_getElem hk]; rfl
  unfold sw
  rw [e i hi, e j hj]
  exact List.set_set_perm hi hj
/-- Sifting down. -/
def ch (R : List B2) (i n : Nat) : Nat := if 2 * i + 2 < n ∧ bfr (at2 R (2 * i + 2)) (at2 R (2 * i + 1)) = true then 2 * i + 2 else 2 * i + 1
def dwn : Nat → List B2 → Nat → Nat → List B2
  | 0, R, _, _ => R
  | f + 1, R, i, n => if n ≤ 2 * i + 1 then R else if bfr (at2 R (ch R i n)) (at2 R i) = true then dwn f (sw R i (ch R i n)) (ch R i n) n else R
theorem ch_is {R : List B2} {i n : Nat} (h : 2 * i + 1 < n) : ch R i n < n ∧ (ch R i n = 2 * i + 1 ∨ ch R i n = 2 * i + 2) ∧ ge (at2 R (ch R i n)) (at2 R (2 * i + 1)) ∧ (2 * i + 2 < n → ge (at2 R (ch R i n)) (at2 R (2 * i + 2))) := by
  unfold ch
  by_cases e : 2 * i + 2 < n ∧ bfr (at2 R (2 * i + 2)) (at2 R (2 * i + 1)) = true
  · rw [if_pos e]
    exact ⟨e.1, .inr rfl, ge_yes e.2, fun _ => ge_refl _⟩
  · rw [if_neg e]
    refine ⟨h, .inl rfl, ge_refl _, fun h2 => ge_no ?_⟩
    cases q : bfr (at2 R (2 * i + 2)) (at2 R (2 * i + 1))
    · rfl
    · exact absurd ⟨h2, q⟩ e
theorem dwn_kept : ∀ (f : Nat) (R : List B2) (i n : Nat), n ≤ R.length → (dwn f R i n).length = R.length ∧ (dwn f R i n).Perm R ∧ ∀ k, n ≤ k → at2 (dwn f R i n) k = at2 R k
  | 0, R, i, n, _ => ⟨rfl, List.Perm.refl _, fun _ _ => rfl⟩
  | f + 1, R, i, n, h => by
    unfold dwn
    by_cases h1 : n ≤ 2 * i + 1
    · rw [if_pos h1]; exact ⟨rfl, List.Perm.refl _, fun _ _ => rfl⟩
    · rw [if_neg h1]
      by_cases h2 : bfr (at2 R (ch R i n)) (at2 R i) = true
      · rw [if_pos h2]
        obtain ⟨c1, c2, _, _⟩ := ch_is (R := R) (i := i) (n := n) (by omega)
        obtain ⟨g1, g2, g3⟩ := dwn_kept f (sw R i (ch R i n)) (ch R i n) n (by rw [sw_len]; exact h)
        refine ⟨by rw [g1, sw_len], g2.trans (sw_perm (by omega) (by omega)), fun k hk => ?_⟩
        rw [g3 k hk, sw_get (by omega) (by omega), if_neg (by omega), if_neg (by omega)]
      · rw [if_neg h2]; exact ⟨rfl, List.Perm.refl _, fun _ _ => rfl⟩
def okN (R : List B2) (n p : Nat) : Prop := (2 * p + 1 < n → ge (at2 R p) (at2 R (2 * p + 1))) ∧ (2 * p + 2 < n → ge (at2 R p) (at2 R (2 * p + 2)))
theorem dwn_ok (n lo : Nat) : ∀ (f : Nat) (R : List B2) (i : Nat), n ≤ R.length → n ≤ i + f → lo ≤ i → (∀ p, lo ≤ p → p ≠ i → okN R n p) →
    (∀ q, lo ≤ q → (i = 2 * q + 1 ∨ i = 2 * q + 2) → (2 * i + 1 < n → ge (at2 R q) (at2 R (2 * i + 1))) ∧ (2 * i + 2 < n → ge (at2 R q) (at2 R (2 * i + 2)))) → ∀ p, lo ≤ p → okN (dwn f R i n) n p
  | 0, R, i, _, h2, _, hA, _, p, hp => by
    by_cases e : p = i
    · exact ⟨fun _ => by omega, fun _ => by omega⟩
    · exact hA p hp e
  | f + 1, R, i, h1, h2, h3, hA, hB, p, hp => by
    unfold dwn
    by_cases g1 : n ≤ 2 * i + 1
    · rw [if_pos g1]
      by_cases e : p = i
      · exact ⟨fun _ => by omega, fun _ => by omega⟩
      · exact hA p hp e
    · rw [if_neg g1]
      obtain ⟨c1, c2, c3, c4⟩ := ch_is (R := R) (i := i) (n := n) (by omega)
      generalize ch R i n = j at *
      cases g2 : bfr (at2 R j) (at2 R i)
      · rw [if_neg (by decide)]
        by_cases e : p = i
        · rw [e]
          exact ⟨fun _ => ge_trans (ge_no g2) c3, fun hh => ge_trans (ge_no g2) (c4 hh)⟩
        · exact hA p hp e
      · rw [if_pos rfl]
        have hji : j ≠ i := by omega
        have hg := fun k => sw_get (R := R) (i := i) (j := j) (by omega) (by omega) k
        refine dwn_ok n lo f (sw R i j) j (by rw [sw_len]; exact h1) (by omega) (by omega) (fun q hq hne => ?_) (fun q hq hc => ?_) p hp
        · by_cases e : q = i
          · subst e
            constructor
            · intro hh
              rw [hg, hg, if_neg (by omega), if_pos rfl]
              by_cases e2 : 2 * q + 1 = j
              · rw [if_pos e2]; exact ge_yes g2
              · rw [if_neg e2, if_neg (by omega)]; exact c3
            · intro hh
              rw [hg, hg, if_neg (by omega), if_pos rfl]
              by_cases e2 : 2 * q + 2 = j
              · rw [if_pos e2]; exact ge_yes g2
              · rw [if_neg e2, if_neg (by omega)]; exact c4 hh
          · have ho := hA q hq e
            constructor
            · intro hh
              rw [hg, hg, if_neg hne, if_neg e, if_neg (by omega)]
              by_cases e2 : 2 * q + 1 = i
              · rw [if_pos e2]
                have hb := hB q hq (.inl e2.symm)
                rcases c2 with rfl | rfl
                · exact hb.1 (by omega)
                · exact hb.2 (by omega)
              · rw [if_neg e2]; exact ho.1 hh
            · intro hh
              rw [hg, hg, if_neg hne, if_neg e, if_neg (by omega)]
              by_cases e2 : 2 * q + 2 = i
              · rw [if_pos e2]
                have hb := hB q hq (.inr e2.symm)
                rcases c2 with rfl | rfl
                · exact hb.1 (by omega)
                · exact hb.2 (by omega)
              · rw [if_neg e2]; exact ho.2 hh
        · have e : q = i := by omega
          subst e
          have ho := hA j (by omega) hji
          constructor
          · intro hh
            rw [hg, hg, if_neg (by omega), if_pos rfl, if_neg (by omega), if_neg (by omega)]
            exact ho.1 hh
          · intro hh
            rw [hg, hg, if_neg (by omega), if_pos rfl, if_neg (by omega), if_neg (by omega)]
            exact ho.2 hh
def hp (R : List B2) : Prop := ∀ p, okN R R.length p
theorem root_best {R : List B2} (h : hp R) : ∀ k, k < R.length → ge (at2 R 0) (at2 R k) := by
  intro k
  induction k using Nat.strongRecOn with
  | _ k ih =>
    intro hk
    by_cases e : k = 0
    · rw [e]; exact ge_refl _
    · have h0 := ih ((k - 1) / 2) (by omega) (by omega)
      have h1 := h ((k - 1) / 2)
      by_cases e2 : k % 2 = 1
      · have e3 : 2 * ((k - 1) / 2) + 1 = k := by omega
        have := h1.1 (by omega)
        rw [e3] at this
        exact ge_trans h0 this
      · have e3 : 2 * ((k - 1) / 2) + 2 = k := by omega
        have := h1.2 (by omega)
        rw [e3] at this
        exact ge_trans h0 this
/-- A heap is made. -/
def hin (n : Nat) : Nat → List B2 → List B2
  | 0, R => R
  | m + 1, R => hin n m (dwn n R m n)
theorem hin_ok (n : Nat) : ∀ (m : Nat) (R : List B2), R.length = n → (∀ p, m ≤ p → okN R n p) → hp (hin n m R) ∧ (hin n m R).length = n ∧ (hin n m R).Perm R
  | 0, R, hl, h => ⟨fun p => by show okN R R.length p; rw [hl]; exact h p (Nat.zero_le _), hl, List.Perm.refl _⟩
  | m + 1, R, hl, h => by
    obtain ⟨k1, k2, _⟩ := dwn_kept n R m n (by omega)
    obtain ⟨g1, g2, g3⟩ := hin_ok n m (dwn n R m n) (by omega) (dwn_ok n m n R m (by omega) (by omega) (Nat.le_refl _) (fun p hp hne => h p (by omega)) (fun q hq hc => by omega))
    exact ⟨g1, g2, g3.trans k2⟩
/-- The best is taken off. -/
def popD (R : List B2) : List B2 := dwn (R.length - 1) (sw R 0 (R.length - 1)) 0 (R.length - 1)
def popR (R : List B2) : List B2 := (popD R).take (R.length - 1)
theorem pop_ok {R : List B2} (hne : 0 < R.length) (h : hp R) : hp (popR R) ∧ (popR R).length = R.length - 1 ∧ (popD R).length = R.length ∧ at2 (popD R) (R.length - 1) = at2 R 0 ∧ (popR R ++ [at2 R 0]).Perm R := by
  obtain ⟨n, hn⟩ : ∃ n, R.length = n + 1 := ⟨R.length - 1, by omega⟩
  have hs : (sw R 0 n).length = n + 1 := by rw [sw_len]; exact hn
  obtain ⟨k1, k2, k3⟩ := dwn_kept n (sw R 0 n) 0 n (by omega)
  have hg := fun k => sw_get (R := R) (i := 0) (j := n) (by omega) (by omega) k
  have hok := dwn_ok n 0 n (sw R 0 n) 0 (by omega) (by omega) (Nat.le_refl _) (fun p _ hp0 => by
    have ho := h p
    rw [hn] at ho
    constructor
    · intro hh
      rw [hg, hg, if_neg (by omega), if_neg hp0, if_neg (by omega), if_neg (by omega)]
      exact ho.1 (by omega)
    · intro hh
      rw [hg, hg, if_neg (by omega), if_neg hp0, if_neg (by omega), if_neg (by omega)]
      exact ho.2 (by omega)) (fun q _ hc => by omega)
  have eD : popD R = dwn n (sw R 0 n) 0 n := by unfold popD; rw [hn]; rfl
  have eR : popR R = (dwn n (sw R 0 n) 0 n).take n := by unfold popR; rw [eD, hn]; rfl
  have hlast : at2 (dwn n (sw R 0 n) 0 n) n = at2 R 0 := by rw [k3 n (Nat.le_refl _), hg, if_pos rfl]
  rw [eD, eR, show R.length - 1 = n by omega]
  generalize dwn n (sw R 0 n) 0 n = D at *
  have hDl : D.length = n + 1 := by omega
  have htk : (D.take n).length = n := by rw [List.length_take]; omega
  have hat : ∀ k, k < n → at2 (D.take n) k = at2 D k := fun k hk => by
    unfold at2
    rw [List.getD_eq_getElem?_getD, List.getD_eq_getElem?_getD, List.getElem?_take_of_lt hk]
  refine ⟨fun p => ?_, htk, by omega, hlast, ?_⟩
  · rw [htk]
    have ho := hok p (Nat.zero_le _)
    constructor
    · intro hh; rw [hat _ (by omega), hat _ hh]; exact ho.1 hh
    · intro hh; rw [hat _ (by omega), hat _ hh]; exact ho.2 hh
  · have e : D.take n ++ [at2 R 0] = D := by
      rw [← hlast]
      have h1 := List.take_concat_get (l := D) (i := n) (by omega)
      rw [List.concat_eq_append] at h1
      have h2 : at2 D n = D[n]'(by omega) := by unfold at2; rw [List.getD_eq_getElem?_getD, List.getElem?_eq_getElem (by omega)]; rfl
      rw [h2, h1, ← hDl, List.take_length]
    rw [e]
    exact k2.trans (sw_perm (by omega) (by omega))
/-- What is taken off has the rank that is due. -/
structure JJ (r : Nat → Int) (N t : Nat) (R : List B2) : Prop where
  h : hp R
  d : R.Nodup
  n : R.length = N - t
  m : ∀ x : B2, x ∈ R ↔ ∃ p : Nat, p < N ∧ x = ((p : Int), r p) ∧ t ≤ rkN N r p
def rs0 (r : Nat → Int) (m : Nat) : List B2 := (List.range m).map (fun p : Nat => ((p : Int), r p))
theorem rs0_len (r : Nat → Int) (m : Nat) : (rs0 r m).length = m := by unfold rs0; rw [List.length_map, List.length_range]
theorem rs0_succ (r : Nat → Int) (m : Nat) : rs0 r (m + 1) = rs0 r m ++ [((m : Int), r m)] := by unfold rs0; rw [List.range_succ, List.map_append]; rfl
theorem jj_new (r : Nat → Int) (N : Nat) : JJ r N 0 (hin N (N / 2) (rs0 r N)) := by
  obtain ⟨h1, h2, h3⟩ := hin_ok N (N / 2) (rs0 r N) (rs0_len r N) (fun p hp => ⟨fun hh => by omega, fun hh => by omega⟩)
  refine ⟨h1, ?_, by omega, fun x => ?_⟩
  · rw [h3.nodup_iff]
    unfold rs0 List.Nodup
    rw [List.pairwise_map]
    refine List.Pairwise.imp ?_ (List.nodup_range (n := N))
    intro a b hab e
    have := congrArg Prod.fst e
    simp only at this
    omega
  · rw [h3.mem_iff]
    unfold rs0
    rw [List.mem_map]
    constructor
    · rintro ⟨p, hp, rfl⟩
      exact ⟨p, List.mem_range.1 hp, rfl, Nat.zero_le _⟩
    · rintro ⟨p, hp, rfl, _⟩
      exact ⟨p, List.mem_range.2 hp, rfl⟩
theorem jj_pop {r : Nat → Int} {N t : Nat} {R : List B2} (h : JJ r N t R) (ht : t < N) : ∃ b : Nat, b < N ∧ at2 R 0 = ((b : Int), r b) ∧ rkN N r b = t ∧ JJ r N (t + 1) (popR R) := by
  have hl := h.n
  obtain ⟨p1, p2, _, _, p5⟩ := pop_ok (R := R) (by omega) h.h
  obtain ⟨b, hb, eb, hrb⟩ := (h.m _).1 (at2_mem (R := R) (i := 0) (by omega))
  have hrk : rkN N r b = t := by
    obtain ⟨c, _, hc, hrc⟩ := pick_rk (pick_cnt N r t (by omega)) ht
    have hcm : ((c : Int), r c) ∈ R := (h.m _).2 ⟨c, hc, rfl, by omega⟩
    obtain ⟨k, hk, ek⟩ := mem_at2 hcm
    have hge := root_best h.h k hk
    rw [ek, eb] at hge
    by_cases e : b = c
    · rw [e]; exact hrc
    · have hbef : bef r b c = true := by
        unfold ge at hge
        unfold bef
        simp only [Bool.or_eq_true, Bool.and_eq_true, decide_eq_true_eq] at hge ⊢
        omega
      have := rk_lt (n := N) hb hbef
      omega
  have hnd : (popR R ++ [at2 R 0]).Nodup := p5.nodup_iff.2 h.d
  rw [List.nodup_append] at hnd
  refine ⟨b, hb, eb, hrk, p1, hnd.1, by omega, fun x => ?_⟩
  have hmem : x ∈ R ↔ x ∈ popR R ∨ x = at2 R 0 := by rw [← p5.mem_iff, List.mem_append, List.mem_singleton]
  constructor
  · intro hx
    obtain ⟨p, hp, ep, hr⟩ := (h.m x).1 (hmem.2 (.inl hx))
    refine ⟨p, hp, ep, ?_⟩
    have hne : x ≠ at2 R 0 := hnd.2.2 x hx _ (List.mem_singleton.2 rfl)
    have hpb : rkN N r p ≠ t := fun e => hne (by rw [ep, eb, rk_inj (n := N) (r := r) hp hb (by omega)])
    omega
  · rintro ⟨p, hp, ep, hr⟩
    have := (h.m x).2 ⟨p, hp, ep, by omega⟩
    rcases hmem.1 this with q | q
    · exact q
    · exfalso
      rw [ep, eb] at q
      have := congrArg Prod.fst q
      simp only at this
      have e : p = b := by omega
      rw [e] at hr; omega
end Go.Proofs.Ytbbejjlgfekipaa.ShaG
