/- The mathematics of halves and blocks: a list is halved and united, spread into coefficients and gathered, each way round to the last bit; how great the numbers become. No program is spoken of. -/
import Derived.Test.YtodfkicmmcfkaaaTurM
namespace Go.Proofs.Ytodfkicmmcfkaaa.HalM
open Go.ChangeShapes Go.WideShapes Go.ChangeAt Go.RowKit Go.Proofs.Ytodfkicmmcfkaaa.Num Go.Proofs.Ytodfkicmmcfkaaa.Samp Go.Proofs.Ytodfkicmmcfkaaa.TurM

/-- The list of f 0, f 1 .. f (m - 1). -/
def mkL (m : Nat) (f : Nat → Int) : List Int := (List.range m).map f
theorem mkL_len (m : Nat) (f : Nat → Int) : (mkL m f).length = m := by simp [mkL]
theorem mkL_get {m i : Nat} (f : Nat → Int) (h : i < m) : (mkL m f).getD i 0 = f i := by simp [mkL, h]
theorem mkL_far {m i : Nat} (f : Nat → Int) (h : m ≤ i) : (mkL m f).getD i 0 = 0 := by simp [mkL, h]
theorem mkL_succ (m : Nat) (f : Nat → Int) : mkL (m + 1) f = mkL m f ++ [f m] := by simp [mkL, List.range_succ]
theorem mkL_zero (f : Nat → Int) : mkL 0 f = [] := rfl
theorem ext_g {a b : List Int} (hl : a.length = b.length) (h : ∀ i, i < a.length → a.getD i 0 = b.getD i 0) : a = b := by
  apply List.ext_getElem hl
  intro i h1 h2
  have := h i h1
  rw [List.getD_eq_getElem?_getD, List.getD_eq_getElem?_getD, List.getElem?_eq_getElem h1, List.getElem?_eq_getElem h2] at this
  exact this
theorem mkL_self (l : List Int) : mkL l.length (fun i => l.getD i 0) = l := by
  apply ext_g (mkL_len _ _)
  intro i hi
  rw [mkL_len] at hi
  exact mkL_get _ hi
theorem mkL_congr {m : Nat} {f h : Nat → Int} (e : ∀ i, i < m → f i = h i) : mkL m f = mkL m h := by
  apply ext_g (by rw [mkL_len, mkL_len])
  intro i hi
  rw [mkL_len] at hi
  rw [mkL_get _ hi, mkL_get _ hi, e i hi]

/-- Pairs of places i and m - 1 - i that are written from outside inward: behind k rounds. -/
def pS (m k : Nat) (v o : Nat → Int) : List Int := mkL m (fun j => if j < k ∨ m - 1 - j < k then v j else o j)
theorem pS_len (m k : Nat) (v o : Nat → Int) : (pS m k v o).length = m := mkL_len _ _
theorem pS_zero (m : Nat) (v o : Nat → Int) : pS m 0 v o = mkL m o := mkL_congr (fun i _ => by simp)
theorem pS_end {m k : Nat} (v o : Nat → Int) (h : m ≤ 2 * k) : pS m k v o = mkL m v := mkL_congr (fun i hi => if_pos (by omega))
theorem pS_lo {m k : Nat} (v o : Nat → Int) (h : 2 * k < m) : (pS m k v o).getD k 0 = o k := by
  unfold pS; rw [mkL_get _ (by omega), if_neg (by omega)]
theorem pS_hi {m k : Nat} (v o : Nat → Int) (h : 2 * k < m) : (pS m k v o).getD (m - 1 - k) 0 = o (m - 1 - k) := by
  unfold pS; rw [mkL_get _ (by omega), if_neg (by omega)]
theorem getD_set (l : List Int) (i j : Nat) (x : Int) (hj : j < l.length) : (l.set i x).getD j 0 = if i = j then x else l.getD j 0 := by
  simp only [List.getD_eq_getElem?_getD, List.getElem?_set]
  by_cases e : i = j
  · subst e; simp [hj]
  · simp [e]
theorem pS_step {m k : Nat} (v o : Nat → Int) : ((pS m k v o).set k (v k)).set (m - 1 - k) (v (m - 1 - k)) = pS m (k + 1) v o := by
  apply ext_g (by simp [pS_len])
  intro j hj
  simp only [List.length_set, pS_len] at hj
  rw [getD_set _ _ _ _ (by simpa [pS_len] using hj), getD_set _ _ _ _ (by simpa [pS_len] using hj)]
  unfold pS
  rw [mkL_get _ hj, mkL_get _ hj]
  by_cases e1 : m - 1 - k = j
  · subst e1; rw [if_pos rfl, if_pos (by omega)]
  · rw [if_neg e1]
    by_cases e2 : k = j
    · subst e2; rw [if_pos rfl, if_pos (by omega)]
    · rw [if_neg e2]
      by_cases e3 : j < k ∨ m - 1 - j < k
      · rw [if_pos e3, if_pos (by omega)]
      · rw [if_neg e3, if_neg (by omega)]

/-- Pairs of a list d of n / 2 numbers, each changed by F: the place j of what comes of it. -/
def prE (F : Nat → Int → Int → Int × Int) (n : Nat) (d : List Int) (j : Nat) : Int :=
  if n ≤ 2 then d.getD j 0 else if j < n / 4 then (F j (d.getD j 0) (d.getD (n / 2 - 1 - j) 0)).1 else (F (n / 2 - 1 - j) (d.getD (n / 2 - 1 - j) 0) (d.getD j 0)).2
def prL (F : Nat → Int → Int → Int × Int) (n : Nat) (d : List Int) : List Int := mkL (n / 2) (prE F n d)
/-- The turn i of the size n, ahead and back. -/
def ahF (n i : Nat) (a b : Int) : Int × Int := (ahA (pV n i) (uV n i) a b, ahB (pV n i) (uV n i) a b)
def bkF (n i : Nat) (a b : Int) : Int × Int := (bkA (pV n i) (uV n i) a b, bkB (pV n i) (uV n i) a b)
theorem bkF_ahF (n i : Nat) (a b : Int) : bkF n i (ahF n i a b).1 (ahF n i a b).2 = (a, b) := Prod.ext (bk_ah _ _ a b).1 (bk_ah _ _ a b).2
theorem ahF_bkF (n i : Nat) (a b : Int) : ahF n i (bkF n i a b).1 (bkF n i a b).2 = (a, b) := Prod.ext (ah_bk _ _ a b).1 (ah_bk _ _ a b).2
/-- How many numbers a list that is halved has. -/
def sz4 (n : Nat) : Prop := n = 2 ∨ n = 4 ∨ n = 8 ∨ n = 16
theorem prL_len (F : Nat → Int → Int → Int × Int) (n : Nat) (d : List Int) : (prL F n d).length = n / 2 := mkL_len _ _
theorem prL_inv {F G : Nat → Int → Int → Int × Int} (hFG : ∀ i a b, G i (F i a b).1 (F i a b).2 = (a, b)) {n : Nat} (hn : sz4 n) {d : List Int} (hd : d.length = n / 2) : prL G n (prL F n d) = d := by
  apply ext_g (by rw [prL_len, hd])
  intro j hj
  rw [prL_len] at hj
  have h4 : n ≤ 2 ∨ n / 2 = 2 * (n / 4) := by rcases hn with rfl | rfl | rfl | rfl <;> omega
  rw [show prL G n (prL F n d) = mkL (n / 2) (prE G n (prL F n d)) from rfl, mkL_get _ hj]
  unfold prE
  by_cases h2 : n ≤ 2
  · rw [if_pos h2]
    rw [show prL F n d = mkL (n / 2) (prE F n d) from rfl, mkL_get _ hj]
    unfold prE; rw [if_pos h2]
  · rw [if_neg h2]
    have hk : n / 2 = 2 * (n / 4) := by omega
    have hj2 : n / 2 - 1 - j < n / 2 := by omega
    rw [show prL F n d = mkL (n / 2) (prE F n d) from rfl, mkL_get _ hj, mkL_get _ hj2]
    unfold prE
    rw [if_neg h2, if_neg h2]
    by_cases hq : j < n / 4
    · rw [if_pos hq, if_pos hq, if_neg (by omega), show n / 2 - 1 - (n / 2 - 1 - j) = j by omega, hFG]
    · rw [if_neg hq, if_neg hq, if_pos (by omega), show n / 2 - 1 - (n / 2 - 1 - j) = j by omega, hFG]
theorem prL_two (F : Nat → Int → Int → Int × Int) {n : Nat} (h : n ≤ 2) {d : List Int} (hd : d.length = n / 2) : prL F n d = d := by
  have e : prL F n d = mkL d.length (fun i => d.getD i 0) := by rw [hd]; exact mkL_congr (fun i _ => if_pos h)
  rw [e, mkL_self]
/-- What the pairs are behind k rounds. -/
theorem prL_state {F : Nat → Int → Int → Int × Int} {n : Nat} (hn : sz4 n) (h2 : 2 < n) (d : List Int) : pS (n / 2) (n / 4) (prE F n d) (fun i => d.getD i 0) = prL F n d :=
  pS_end _ _ (by rcases hn with rfl | rfl | rfl | rfl <;> omega)
theorem prE_lo {F : Nat → Int → Int → Int × Int} {n j : Nat} (h2 : 2 < n) (hj : j < n / 4) (d : List Int) : prE F n d j = (F j (d.getD j 0) (d.getD (n / 2 - 1 - j) 0)).1 := by
  unfold prE; rw [if_neg (by omega), if_pos hj]
theorem prE_hi {F : Nat → Int → Int → Int × Int} {n j : Nat} (hn : sz4 n) (h2 : 2 < n) (hj : j < n / 4) (d : List Int) : prE F n d (n / 2 - 1 - j) = (F j (d.getD j 0) (d.getD (n / 2 - 1 - j) 0)).2 := by
  have hk : n / 2 = 2 * (n / 4) := by rcases hn with rfl | rfl | rfl | rfl <;> omega
  unfold prE; rw [if_neg (by omega), if_neg (by omega), show n / 2 - 1 - (n / 2 - 1 - j) = j by omega]

/-- Both halves of a list. -/
def hSe (l : List Int) (i : Nat) : Int := l.getD (l.length - 1 - i) 0 + (l.getD i 0 - l.getD (l.length - 1 - i) 0) / 2
def hDe (l : List Int) (i : Nat) : Int := l.getD i 0 - l.getD (l.length - 1 - i) 0
def hS (l : List Int) : List Int := mkL (l.length / 2) (hSe l)
def hD0 (l : List Int) : List Int := mkL (l.length / 2) (hDe l)
def hD (l : List Int) : List Int := prL (ahF l.length) l.length (hD0 l)
/-- The list of both halves. -/
def unE (n : Nat) (s e : List Int) (j : Nat) : Int := if j < n / 2 then s.getD j 0 - e.getD j 0 / 2 + e.getD j 0 else s.getD (n - 1 - j) 0 - e.getD (n - 1 - j) 0 / 2
def unB (n : Nat) (d : List Int) : List Int := prL (bkF n) n d
def un (s d : List Int) : List Int := mkL (2 * s.length) (unE (2 * s.length) s (unB (2 * s.length) d))
theorem hS_len (l : List Int) : (hS l).length = l.length / 2 := mkL_len _ _
theorem hD0_len (l : List Int) : (hD0 l).length = l.length / 2 := mkL_len _ _
theorem hD_len (l : List Int) : (hD l).length = l.length / 2 := mkL_len _ _
theorem un_len (s d : List Int) : (un s d).length = 2 * s.length := mkL_len _ _
theorem sz4_even {n : Nat} (h : sz4 n) : 2 * (n / 2) = n := by rcases h with rfl | rfl | rfl | rfl <;> rfl
theorem un_halves {l : List Int} (hn : sz4 l.length) : un (hS l) (hD l) = l := by
  have h2 := sz4_even hn
  apply ext_g (by rw [un_len, hS_len, h2])
  intro j hj
  rw [un_len, hS_len, h2] at hj
  unfold un unB
  rw [hS_len, h2, mkL_get _ hj]
  have e1 : prL (bkF l.length) l.length (hD l) = hD0 l := prL_inv (bkF_ahF l.length) hn (hD0_len l)
  rw [e1]
  unfold unE
  by_cases hq : j < l.length / 2
  · rw [if_pos hq, show (hS l).getD j 0 = hSe l j from mkL_get _ hq, show (hD0 l).getD j 0 = hDe l j from mkL_get _ hq]
    unfold hSe hDe; omega
  · have hq2 : l.length - 1 - j < l.length / 2 := by omega
    rw [if_neg hq, show (hS l).getD (l.length - 1 - j) 0 = hSe l (l.length - 1 - j) from mkL_get _ hq2, show (hD0 l).getD (l.length - 1 - j) 0 = hDe l (l.length - 1 - j) from mkL_get _ hq2]
    unfold hSe hDe
    rw [show l.length - 1 - (l.length - 1 - j) = j by omega]; omega
theorem halves_un {s d : List Int} (hn : sz4 (2 * s.length)) (hd : d.length = s.length) : hS (un s d) = s ∧ hD (un s d) = d := by
  have h2 : 2 * s.length / 2 = s.length := by omega
  have hb : ∀ i, i < s.length → (un s d).getD i 0 = s.getD i 0 - (unB (2 * s.length) d).getD i 0 / 2 + (unB (2 * s.length) d).getD i 0 ∧ (un s d).getD (2 * s.length - 1 - i) 0 = s.getD i 0 - (unB (2 * s.length) d).getD i 0 / 2 := by
    intro i hi
    unfold un
    rw [mkL_get _ (by omega), mkL_get _ (by omega)]
    unfold unE
    rw [if_pos (by omega), if_neg (by omega), show 2 * s.length - 1 - (2 * s.length - 1 - i) = i by omega]
    exact ⟨rfl, rfl⟩
  have e0 : hD0 (un s d) = unB (2 * s.length) d := by
    apply ext_g (by rw [hD0_len, un_len, unB, prL_len])
    intro i hi
    rw [hD0_len, un_len, h2] at hi
    rw [show (hD0 (un s d)).getD i 0 = hDe (un s d) i from mkL_get _ (by rw [un_len]; omega)]
    unfold hDe
    rw [un_len, (hb i hi).1, (hb i hi).2]; omega
  constructor
  · apply ext_g (by rw [hS_len, un_len]; omega)
    intro i hi
    rw [hS_len, un_len, h2] at hi
    rw [show (hS (un s d)).getD i 0 = hSe (un s d) i from mkL_get _ (by rw [un_len]; omega)]
    unfold hSe
    rw [un_len, (hb i hi).1, (hb i hi).2]; omega
  · unfold hD
    rw [e0, un_len]
    exact prL_inv (ahF_bkF _) hn (by rw [hd]; omega)

/-- One list out of two, place by place; and its even and its odd places. -/
def inE (a b : List Int) (j : Nat) : Int := if j % 2 = 0 then a.getD (j / 2) 0 else b.getD (j / 2) 0
def inter (a b : List Int) : List Int := mkL (2 * a.length) (inE a b)
def ev (c : List Int) : List Int := mkL (c.length / 2) (fun i => c.getD (2 * i) 0)
def od (c : List Int) : List Int := mkL (c.length / 2) (fun i => c.getD (2 * i + 1) 0)
theorem inter_len (a b : List Int) : (inter a b).length = 2 * a.length := mkL_len _ _
theorem ev_len (c : List Int) : (ev c).length = c.length / 2 := mkL_len _ _
theorem od_len (c : List Int) : (od c).length = c.length / 2 := mkL_len _ _
theorem ev_inter (a b : List Int) : ev (inter a b) = a := by
  apply ext_g (by rw [ev_len, inter_len]; omega)
  intro i hi
  rw [ev_len, inter_len] at hi
  rw [show (ev (inter a b)).getD i 0 = (inter a b).getD (2 * i) 0 from mkL_get _ (by rw [inter_len]; omega)]
  rw [show (inter a b).getD (2 * i) 0 = inE a b (2 * i) from mkL_get _ (by omega)]
  unfold inE; rw [if_pos (by omega), show 2 * i / 2 = i by omega]
theorem od_inter {a b : List Int} (h : b.length = a.length) : od (inter a b) = b := by
  apply ext_g (by rw [od_len, inter_len]; omega)
  intro i hi
  rw [od_len, inter_len] at hi
  rw [show (od (inter a b)).getD i 0 = (inter a b).getD (2 * i + 1) 0 from mkL_get _ (by rw [inter_len]; omega)]
  rw [show (inter a b).getD (2 * i + 1) 0 = inE a b (2 * i + 1) from mkL_get _ (by omega)]
  unfold inE; rw [if_neg (by omega), show (2 * i + 1) / 2 = i by omega]
theorem inter_ev_od {c : List Int} (h : 2 * (c.length / 2) = c.length) : inter (ev c) (od c) = c := by
  apply ext_g (by rw [inter_len, ev_len, h])
  intro i hi
  rw [inter_len, ev_len, h] at hi
  rw [show (inter (ev c) (od c)).getD i 0 = inE (ev c) (od c) i from mkL_get _ (by rw [ev_len]; omega)]
  unfold inE
  by_cases e : i % 2 = 0
  · rw [if_pos e, show (ev c).getD (i / 2) 0 = c.getD (2 * (i / 2)) 0 from mkL_get _ (by omega), show 2 * (i / 2) = i by omega]
  · rw [if_neg e, show (od c).getD (i / 2) 0 = c.getD (2 * (i / 2) + 1) 0 from mkL_get _ (by omega), show 2 * (i / 2) + 1 = i by omega]

/-- The coefficients of 2 to the power of k numbers, and the numbers of so many coefficients. -/
def sp : Nat → List Int → List Int
  | 0, l => l
  | k + 1, l => inter (sp k (hS l)) (sp k (hD l))
def ga : Nat → List Int → List Int
  | 0, c => c
  | k + 1, c => un (ga k (ev c)) (ga k (od c))
theorem sp_len : ∀ (k : Nat) (l : List Int), l.length = 2 ^ k → (sp k l).length = 2 ^ k
  | 0, _, h => h
  | k + 1, l, h => by
    show (inter (sp k (hS l)) (sp k (hD l))).length = _
    rw [inter_len, sp_len k (hS l) (by rw [hS_len, h, Nat.pow_succ]; omega), Nat.pow_succ]; omega
theorem ga_len : ∀ (k : Nat) (c : List Int), c.length = 2 ^ k → (ga k c).length = 2 ^ k
  | 0, _, h => h
  | k + 1, c, h => by
    show (un (ga k (ev c)) (ga k (od c))).length = _
    rw [un_len, ga_len k (ev c) (by rw [ev_len, h, Nat.pow_succ]; omega), Nat.pow_succ]; omega
theorem sz4_pow {k : Nat} (h : k + 1 ≤ 4) : sz4 (2 ^ (k + 1)) := by
  rcases k with _ | _ | _ | _ | k
  · exact .inl rfl
  · exact .inr (.inl rfl)
  · exact .inr (.inr (.inl rfl))
  · exact .inr (.inr (.inr rfl))
  · omega
theorem ga_sp : ∀ (k : Nat) (l : List Int), k ≤ 4 → l.length = 2 ^ k → ga k (sp k l) = l
  | 0, _, _, _ => rfl
  | k + 1, l, hk, h => by
    have h1 : (hS l).length = 2 ^ k := by rw [hS_len, h, Nat.pow_succ]; omega
    have h2 : (hD l).length = 2 ^ k := by rw [hD_len, h, Nat.pow_succ]; omega
    show un (ga k (ev (inter (sp k (hS l)) (sp k (hD l))))) (ga k (od (inter (sp k (hS l)) (sp k (hD l))))) = l
    rw [ev_inter, od_inter (by rw [sp_len k _ h1, sp_len k _ h2]), ga_sp k _ (by omega) h1, ga_sp k _ (by omega) h2]
    exact un_halves (by rw [h]; exact sz4_pow hk)
theorem sp_ga : ∀ (k : Nat) (c : List Int), k ≤ 4 → c.length = 2 ^ k → sp k (ga k c) = c
  | 0, _, _, _ => rfl
  | k + 1, c, hk, h => by
    have h1 : (ev c).length = 2 ^ k := by rw [ev_len, h, Nat.pow_succ]; omega
    have h2 : (od c).length = 2 ^ k := by rw [od_len, h, Nat.pow_succ]; omega
    have e := halves_un (s := ga k (ev c)) (d := ga k (od c)) (by rw [ga_len k _ h1, show 2 * 2 ^ k = 2 ^ (k + 1) by rw [Nat.pow_succ]; omega]; exact sz4_pow hk) (by rw [ga_len k _ h1, ga_len k _ h2])
    show inter (sp k (hS (un (ga k (ev c)) (ga k (od c))))) (sp k (hD (un (ga k (ev c)) (ga k (od c))))) = c
    rw [e.1, e.2, sp_ga k _ (by omega) h1, sp_ga k _ (by omega) h2]
    exact inter_ev_od (by rw [h, Nat.pow_succ]; omega)
/-- No number of the list is beyond M. -/
def lim (M : Int) (l : List Int) : Prop := ∀ i, -M ≤ l.getD i 0 ∧ l.getD i 0 ≤ M
theorem lim.pos {M : Int} {l : List Int} (h : lim M l) : 0 ≤ M := by
  have := h l.length
  rw [show l.getD l.length 0 = 0 by simp] at this
  exact this.2
theorem lim.mono {M N : Int} {l : List Int} (h : lim M l) (hMN : M ≤ N) : lim N l := fun i => by have := h i; omega
theorem lim_mkL {M : Int} {m : Nat} {f : Nat → Int} (h0 : 0 ≤ M) (h : ∀ i, i < m → -M ≤ f i ∧ f i ≤ M) : lim M (mkL m f) := by
  intro i
  by_cases hi : i < m
  · rw [mkL_get _ hi]; exact h i hi
  · rw [mkL_far _ (by omega)]; omega
theorem lim_all {M : Int} (h0 : 0 ≤ M) {l : List Int} : l.all (inB (-M) M) = true ↔ lim M l := by
  rw [List.all_eq_true]
  constructor
  · intro h i
    by_cases hi : i < l.length
    · rw [List.getD_eq_getElem?_getD, List.getElem?_eq_getElem hi, Option.getD_some]
      exact of_inB (h _ (List.getElem_mem hi))
    · rw [List.getD_eq_getElem?_getD, List.getElem?_eq_none (by omega), Option.getD_none]; omega
  · intro h x hx
    obtain ⟨i, hi, rfl⟩ := List.getElem_of_mem hx
    have := h i
    rw [List.getD_eq_getElem?_getD, List.getElem?_eq_getElem hi, Option.getD_some] at this
    exact inB_yes this.1 this.2
theorem lim_hS {M : Int} {l : List Int} (h : lim M l) : lim M (hS l) := lim_mkL h.pos (fun i _ => by
  have h1 := h i
  have h2 := h (l.length - 1 - i)
  unfold hSe; omega)
theorem lim_hD0 {M : Int} {l : List Int} (h : lim M l) : lim (2 * M) (hD0 l) := lim_mkL (by have := h.pos; omega) (fun i _ => by
  have h1 := h i
  have h2 := h (l.length - 1 - i)
  unfold hDe; omega)
/-- The turns by which a list of n is halved. -/
theorem row_small {n i : Nat} (hn : sz4 n) (h2 : 2 < n) (hi : i < n / 4) : tOk n i = true ∧ 1 ≤ pV n i ∧ pV n i ≤ 178 ∧ 1 ≤ uV n i ∧ uV n i ≤ 345 := by
  rcases hn with rfl | rfl | rfl | rfl
  · omega
  · rcases i with _ | i
    · decide
    · omega
  · rcases i with _ | _ | i
    · decide
    · decide
    · omega
  · rcases i with _ | _ | _ | _ | i
    · decide
    · decide
    · decide
    · decide
    · omega
theorem ah_small {p u a b M : Int} (hp : 1 ≤ p ∧ p ≤ 178 ∧ 1 ≤ u ∧ u ≤ 345) (ha : -(2 * M) ≤ a ∧ a ≤ 2 * M) (hb : -(2 * M) ≤ b ∧ b ≤ 2 * M) :
    (-(3 * M + 3) ≤ ahA p u a b ∧ ahA p u a b ≤ 3 * M + 3) ∧ (-(3 * M + 3) ≤ ahB p u a b ∧ ahB p u a b ≤ 3 * M + 3) := by
  unfold ahA ahB
  have m1 := mul_bd (P := 178) (B := 2 * M) (by omega) hp.2.1 hb.1 hb.2 (by omega)
  have t1 := ten_bd m1.1 m1.2
  generalize tenV (p * b) = x at *
  have m2 := mul_bd (p := u) (b := a - x) (P := 345) (B := 2 * M + (178 * (2 * M) / 1024 + 1)) (by omega) hp.2.2.2 (by omega) (by omega) (by omega)
  have t2 := ten_bd m2.1 m2.2
  generalize tenV (u * (a - x)) = y at *
  have m3 := mul_bd (p := p) (b := b + y) (P := 178) (B := 2 * M + (345 * (2 * M + (178 * (2 * M) / 1024 + 1)) / 1024 + 1)) (by omega) hp.2.1 (by omega) (by omega) (by omega)
  have t3 := ten_bd m3.1 m3.2
  generalize tenV (p * (b + y)) = z at *
  clear m1 m2 m3
  omega
theorem bk_small {p u a b M : Int} (hp : 1 ≤ p ∧ p ≤ 178 ∧ 1 ≤ u ∧ u ≤ 345) (ha : -M ≤ a ∧ a ≤ M) (hb : -M ≤ b ∧ b ≤ M) :
    (-(2 * M + 3) ≤ bkA p u a b ∧ bkA p u a b ≤ 2 * M + 3) ∧ (-(2 * M + 3) ≤ bkB p u a b ∧ bkB p u a b ≤ 2 * M + 3) := by
  unfold bkA bkB
  have m1 := mul_bd (P := 178) (B := M) (by omega) hp.2.1 hb.1 hb.2 (by omega)
  have t1 := ten_bd m1.1 m1.2
  generalize tenV (p * b) = x at *
  have m2 := mul_bd (p := u) (b := a + x) (P := 345) (B := M + (178 * M / 1024 + 1)) (by omega) hp.2.2.2 (by omega) (by omega) (by omega)
  have t2 := ten_bd m2.1 m2.2
  generalize tenV (u * (a + x)) = y at *
  have m3 := mul_bd (p := p) (b := b - y) (P := 178) (B := M + (345 * (M + (178 * M / 1024 + 1)) / 1024 + 1)) (by omega) hp.2.1 (by omega) (by omega) (by omega)
  have t3 := ten_bd m3.1 m3.2
  generalize tenV (p * (b - y)) = z at *
  clear m1 m2 m3
  omega
theorem lim_prL {F : Nat → Int → Int → Int × Int} {n : Nat} {M N : Int} (hn : sz4 n) {d : List Int} (hN : M ≤ N) (h : lim M d)
    (hF : ∀ i a b, 2 < n → i < n / 4 → (-M ≤ a ∧ a ≤ M) → (-M ≤ b ∧ b ≤ M) → (-N ≤ (F i a b).1 ∧ (F i a b).1 ≤ N) ∧ (-N ≤ (F i a b).2 ∧ (F i a b).2 ≤ N)) : lim N (prL F n d) := by
  refine lim_mkL (by have := h.pos; omega) (fun j hj => ?_)
  have hk : n ≤ 2 ∨ n / 2 = 2 * (n / 4) := by rcases hn with rfl | rfl | rfl | rfl <;> omega
  unfold prE
  by_cases h2 : n ≤ 2
  · rw [if_pos h2]; have := h j; omega
  · rw [if_neg h2]
    by_cases hq : j < n / 4
    · rw [if_pos hq]; exact (hF j _ _ (by omega) hq (h _) (h _)).1
    · rw [if_neg hq]; exact (hF (n / 2 - 1 - j) _ _ (by omega) (by omega) (h _) (h _)).2
theorem lim_hD {M : Int} {l : List Int} (hn : sz4 l.length) (h : lim M l) : lim (3 * M + 3) (hD l) := by
  have h0 := h.pos
  exact lim_prL hn (by omega) (lim_hD0 h) (fun i a b h2 hi ha hb => ah_small (row_small hn h2 hi).2 ha hb)
theorem lim_unB {M : Int} {n : Nat} {d : List Int} (hn : sz4 n) (h : lim M d) : lim (2 * M + 3) (unB n d) := by
  have h0 := h.pos
  exact lim_prL hn (by omega) h (fun i a b h2 hi ha hb => bk_small (row_small hn h2 hi).2 ha hb)
theorem lim_un {M : Int} {s d : List Int} (hn : sz4 (2 * s.length)) (hs : lim M s) (hd : lim M d) : lim (2 * M + 3) (un s d) := by
  have h0 := hs.pos
  refine lim_mkL (by omega) (fun j hj => ?_)
  have he := lim_unB hn hd
  unfold unE
  by_cases hq : j < 2 * s.length / 2
  · rw [if_pos hq]; have := hs j; have := he j; omega
  · rw [if_neg hq]; have := hs (2 * s.length - 1 - j); have := he (2 * s.length - 1 - j); omega
theorem lim_inter {M : Int} {a b : List Int} (ha : lim M a) (hb : lim M b) : lim M (inter a b) := lim_mkL ha.pos (fun j _ => by
  unfold inE; split
  · exact ha _
  · exact hb _)
theorem lim_ev {M : Int} {c : List Int} (h : lim M c) : lim M (ev c) := lim_mkL h.pos (fun _ _ => h _)
theorem lim_od {M : Int} {c : List Int} (h : lim M c) : lim M (od c) := lim_mkL h.pos (fun _ _ => h _)
/-- How far coefficients go, and how far what is gathered goes. -/
def bS : Nat → Int → Int
  | 0, M => M
  | k + 1, M => bS k (3 * M + 3)
def bG : Nat → Int → Int
  | 0, M => M
  | k + 1, M => 2 * bG k M + 3
theorem bS_mono : ∀ (k : Nat) {M N : Int}, M ≤ N → bS k M ≤ bS k N
  | 0, _, _, h => h
  | k + 1, _, _, h => bS_mono k (by omega)
theorem lim_sp : ∀ (k : Nat) {M : Int} {l : List Int}, k ≤ 4 → l.length = 2 ^ k → lim M l → lim (bS k M) (sp k l)
  | 0, _, _, _, _, h => h
  | k + 1, M, l, hk, hl, h => by
    have h0 := h.pos
    have h1 : (hS l).length = 2 ^ k := by rw [hS_len, hl, Nat.pow_succ]; omega
    have h2 : (hD l).length = 2 ^ k := by rw [hD_len, hl, Nat.pow_succ]; omega
    exact lim_inter ((lim_sp k (by omega) h1 (lim_hS h)).mono (bS_mono k (by omega))) (lim_sp k (by omega) h2 (lim_hD (by rw [hl]; exact sz4_pow hk) h))
theorem lim_ga : ∀ (k : Nat) {M : Int} {c : List Int}, k ≤ 4 → c.length = 2 ^ k → lim M c → lim (bG k M) (ga k c)
  | 0, _, _, _, _, h => h
  | k + 1, M, c, hk, hl, h => by
    have h1 : (ev c).length = 2 ^ k := by rw [ev_len, hl, Nat.pow_succ]; omega
    have h2 : (od c).length = 2 ^ k := by rw [od_len, hl, Nat.pow_succ]; omega
    exact lim_un (by rw [ga_len k _ h1, show 2 * 2 ^ k = 2 ^ (k + 1) by rw [Nat.pow_succ]; omega]; exact sz4_pow hk) (lim_ga k (by omega) h1 (lim_ev h)) (lim_ga k (by omega) h2 (lim_od h))
/-- No coefficient of a block is beyond half of MaxCoef. -/
theorem sp_coef {k : Nat} {l : List Int} (hk : k ≤ 4) (hl : l.length = 2 ^ k) (h : lim 65536 l) : lim 8388608 (sp k l) := by
  refine (lim_sp k hk hl h).mono ?_
  rcases k with _ | _ | _ | _ | _ | k
  · decide
  · decide
  · decide
  · decide
  · decide
  · omega

/-- The common answers. dep: how often a list is halved until one number is left. -/
def dep (n : Nat) : Nat := if n = 2 then 1 else if n = 4 then 2 else if n = 8 then 3 else 4
def is4 (n : Nat) : Bool := decide (n = 2 ∨ n = 4 ∨ n = 8 ∨ n = 16)
def is3 (n : Nat) : Bool := decide (n = 4 ∨ n = 8 ∨ n = 16)
def hdB (v : Int) : Bool := inB (-1073741824) 1073741824 v
def blB (v : Int) : Bool := inB (-65536) 65536 v
def coB (v : Int) : Bool := inB (-16777216) 16777216 v
def hvC (l : List Int) : Int := if is4 l.length = true then (if l.all hdB = true then 0 else 3) else 2
def hvS (l : List Int) : List Int := if hvC l = 0 then hS l else []
def hvD (l : List Int) : List Int := if hvC l = 0 then hD l else []
def uhC (s d : List Int) : Int := if is4 (2 * s.length) = true ∧ d.length = s.length then (if s.all hdB = true ∧ d.all hdB = true then 0 else 3) else 2
def uhL (s d : List Int) : List Int := if uhC s d = 0 then un s d else []
def sbC (l : List Int) : Int := if is3 l.length = true then (if l.all blB = true then 0 else 3) else 2
def sbL (l : List Int) : List Int := if sbC l = 0 then sp (dep l.length) l else []
def gbC (c : List Int) : Int := if is3 c.length = true then (if c.all coB = true then 0 else 3) else 2
def gbL (c : List Int) : List Int := if gbC c = 0 then ga (dep c.length) c else []
theorem dep_pow {n : Nat} (h : sz4 n) : n = 2 ^ dep n ∧ dep n ≤ 4 := by rcases h with rfl | rfl | rfl | rfl <;> decide
theorem is4_sz {n : Nat} (h : is4 n = true) : sz4 n := (of_decide_eq_true h : n = 2 ∨ n = 4 ∨ n = 8 ∨ n = 16)
theorem is3_sz {n : Nat} (h : is3 n = true) : sz4 n := .inr (of_decide_eq_true h)
theorem hv_ok {l : List Int} (h : hvC l = 0) : sz4 l.length ∧ lim 1073741824 l := by
  unfold hvC at h
  split at h
  · rename_i h1
    split at h
    · rename_i h2; exact ⟨is4_sz h1, (lim_all (by omega)).1 h2⟩
    · cases h
  · cases h
theorem uh_ok {s d : List Int} (h : uhC s d = 0) : sz4 (2 * s.length) ∧ d.length = s.length ∧ lim 1073741824 s ∧ lim 1073741824 d := by
  unfold uhC at h
  split at h
  · rename_i h1
    split at h
    · rename_i h2; exact ⟨is4_sz h1.1, h1.2, (lim_all (by omega)).1 h2.1, (lim_all (by omega)).1 h2.2⟩
    · cases h
  · cases h
theorem sb_ok {l : List Int} (h : sbC l = 0) : is3 l.length = true ∧ lim 65536 l := by
  unfold sbC at h
  split at h
  · rename_i h1
    split at h
    · rename_i h2; exact ⟨h1, (lim_all (by omega)).1 h2⟩
    · cases h
  · cases h
theorem gb_ok {c : List Int} (h : gbC c = 0) : is3 c.length = true ∧ lim 16777216 c := by
  unfold gbC at h
  split at h
  · rename_i h1
    split at h
    · rename_i h2; exact ⟨h1, (lim_all (by omega)).1 h2⟩
    · cases h
  · cases h
/-- What the laws say: halves that are united again; blocks that are gathered again, with no code; coefficients that are spread again. -/
theorem law_halves {l : List Int} (h : hvC l = 0) : uhC (hvS l) (hvD l) = 0 → uhL (hvS l) (hvD l) = l := by
  intro hu
  obtain ⟨h1, _⟩ := hv_ok h
  unfold uhL; rw [if_pos hu]
  unfold hvS hvD; rw [if_pos h, if_pos h]
  exact un_halves h1
theorem law_blocks {l : List Int} (h : sbC l = 0) : lim 8388608 (sbL l) ∧ (sbL l).length = l.length ∧ gbC (sbL l) = 0 ∧ gbL (sbL l) = l := by
  obtain ⟨h1, h2⟩ := sb_ok h
  obtain ⟨e1, e2⟩ := dep_pow (is3_sz h1)
  have el : sbL l = sp (dep l.length) l := if_pos h
  have hlen : (sp (dep l.length) l).length = l.length := (sp_len _ _ e1).trans e1.symm
  have hlim := sp_coef e2 e1 h2
  have hg : gbC (sp (dep l.length) l) = 0 := by
    unfold gbC
    have ha : (sp (dep l.length) l).all coB = true := (lim_all (M := 16777216) (by omega)).2 (hlim.mono (by omega))
    rw [hlen, if_pos h1, if_pos ha]
  refine ⟨by rw [el]; exact hlim, by rw [el]; exact hlen, by rw [el]; exact hg, ?_⟩
  rw [el]; unfold gbL; rw [if_pos hg, hlen]
  exact ga_sp _ _ e2 e1
theorem law_coefs {c : List Int} (h : gbC c = 0) (h2 : sbC (gbL c) = 0) : sbL (gbL c) = c := by
  obtain ⟨h1, _⟩ := gb_ok h
  obtain ⟨e1, e2⟩ := dep_pow (is3_sz h1)
  have el : gbL c = ga (dep c.length) c := if_pos h
  have hlen : (ga (dep c.length) c).length = c.length := (ga_len _ _ e1).trans e1.symm
  unfold sbL; rw [if_pos h2, el, hlen]
  exact sp_ga _ _ e2 e1
end Go.Proofs.Ytodfkicmmcfkaaa.HalM
