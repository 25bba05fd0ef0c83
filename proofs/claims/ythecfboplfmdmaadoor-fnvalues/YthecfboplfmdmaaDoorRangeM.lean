/- The range coder: the plain mathematics: what the coder's number is, that the bytes tell it, and that slots are read back from them one behind the other. -/
import Derived.Test.YthecfboplfmdmaaDoorCrcM
namespace Go.Proofs.YthecfboplfmdmaaDoor.RangeM
open Go.Proofs.YthecfboplfmdmaaDoor.CrcM

/-- A slot. -/
structure Sn where
  lo : Nat
  sz : Nat
  tot : Nat
def Sn.ok (s : Sn) : Prop := 1 ≤ s.tot ∧ s.tot ≤ 1024 ∧ 1 ≤ s.sz ∧ s.lo + s.sz ≤ s.tot
/-- The range behind a slot, ahead of the bytes that are told. -/
def nar (r : Nat) (s : Sn) : Nat := if s.lo + s.sz = s.tot then r - r / s.tot * s.lo else r / s.tot * s.sz
theorem unit_tot (r : Nat) (s : Sn) : r / s.tot * s.tot ≤ r := Nat.div_mul_le_self r s.tot
theorem nar_le {r : Nat} {s : Sn} (h : s.ok) : r / s.tot * s.lo + nar r s ≤ r := by
  obtain ⟨h1, h2, h3, h4⟩ := h
  have hu := unit_tot r s
  have hl : r / s.tot * s.lo ≤ r / s.tot * s.tot := Nat.mul_le_mul_left _ (by omega)
  unfold nar
  split
  · omega
  · rw [← Nat.mul_add]
    exact Nat.le_trans (Nat.mul_le_mul_left _ h4) hu
theorem nar_unit {r : Nat} {s : Sn} (h : s.ok) : r / s.tot * s.sz ≤ nar r s := by
  obtain ⟨h1, h2, h3, h4⟩ := h
  have hu := unit_tot r s
  unfold nar
  split
  · rename_i e
    have : r / s.tot * (s.lo + s.sz) ≤ r := by rw [e]; exact hu
    rw [Nat.mul_add] at this
    omega
  · exact Nat.le_refl _
theorem nar_big {r : Nat} {s : Sn} (h : s.ok) (hr : 65536 ≤ r) : 64 ≤ nar r s ∧ r * 63 ≤ nar r s * 65536 := by
  have h1 := nar_unit (r := r) h
  obtain ⟨t1, t2, t3, t4⟩ := h
  have h2 : r / 1024 ≤ r / s.tot := Nat.div_le_div_left t2 t1
  have h3 : r / s.tot ≤ r / s.tot * s.sz := Nat.le_mul_of_pos_right _ t3
  omega

/-- How many bytes are told, and the range behind them. -/
def sh (r : Nat) : Nat := if 65536 ≤ r then 0 else if 256 ≤ r then 1 else 2
def lift (r : Nat) : Nat := r * 256 ^ sh r
theorem lift_ok {r : Nat} (h1 : 1 ≤ r) (h2 : r ≤ 16777216) : 65536 ≤ lift r ∧ lift r ≤ 16777216 := by
  unfold lift sh
  split
  · simp; omega
  · split
    · simp; omega
    · simp; omega

/-- The coder: how many bytes it told (k), its number (n), its range (r). -/
structure En where
  k : Nat
  n : Nat
  r : Nat
def en0 : En := ⟨0, 0, 16777216⟩
def En.step (e : En) (s : Sn) : En := ⟨e.k + sh (nar e.r s), (e.n + e.r / s.tot * s.lo) * 256 ^ sh (nar e.r s), lift (nar e.r s)⟩
def enc (e : En) : List Sn → En
  | [] => e
  | s :: l => enc (e.step s) l
/-- A right coder. -/
def En.ok (e : En) : Prop := 65536 ≤ e.r ∧ e.r ≤ 16777216 ∧ e.n + e.r ≤ 256 ^ e.k * 16777216
theorem en0_ok : en0.ok := ⟨by decide, by decide, by decide⟩
theorem step_ok {e : En} {s : Sn} (he : e.ok) (hs : s.ok) : (e.step s).ok := by
  obtain ⟨h1, h2, h3⟩ := he
  have hl := nar_le (r := e.r) hs
  have hb := nar_big hs h1
  have hk := lift_ok (r := nar e.r s) (by omega) (by omega)
  refine ⟨hk.1, hk.2, ?_⟩
  show (e.n + e.r / s.tot * s.lo) * 256 ^ sh (nar e.r s) + nar e.r s * 256 ^ sh (nar e.r s) ≤ 256 ^ (e.k + sh (nar e.r s)) * 16777216
  rw [← Nat.add_mul, Nat.pow_add, Nat.mul_right_comm]
  exact Nat.mul_le_mul_right _ (by omega)
theorem enc_ok {e : En} {l : List Sn} (he : e.ok) (hl : ∀ s ∈ l, s.ok) : (enc e l).ok := by
  induction l generalizing e with
  | nil => exact he
  | cons s l ih => exact ih (step_ok he (hl s (by simp))) (fun t ht => hl t (by simp [ht]))
theorem enc_append (e : En) (l m : List Sn) : enc e (l ++ m) = enc (enc e l) m := by
  induction l generalizing e with
  | nil => rfl
  | cons s l ih => exact ih _
theorem enc_snoc (e : En) (l : List Sn) (s : Sn) : enc e (l ++ [s]) = (enc e l).step s := by rw [enc_append]; rfl
/-- What is told later lies within what was told before. -/
def En.within (e f : En) : Prop := e.k ≤ f.k ∧ e.n * 256 ^ (f.k - e.k) ≤ f.n ∧ f.n + f.r ≤ (e.n + e.r) * 256 ^ (f.k - e.k)
theorem within_refl (e : En) : e.within e := ⟨Nat.le_refl _, by simp, by simp⟩
theorem within_trans {e f g : En} (h : e.within f) (k : f.within g) : e.within g := by
  obtain ⟨h1, h2, h3⟩ := h
  obtain ⟨k1, k2, k3⟩ := k
  have hp : 256 ^ (g.k - e.k) = 256 ^ (f.k - e.k) * 256 ^ (g.k - f.k) := by rw [← Nat.pow_add]; congr 1; omega
  refine ⟨by omega, ?_, ?_⟩
  · rw [hp, ← Nat.mul_assoc]; exact Nat.le_trans (Nat.mul_le_mul_right _ h2) k2
  · rw [hp, ← Nat.mul_assoc]; exact Nat.le_trans k3 (Nat.mul_le_mul_right _ h3)
/-- The coder between the narrowing and the bytes. -/
def En.mid (e : En) (s : Sn) : En := ⟨e.k, e.n + e.r / s.tot * s.lo, nar e.r s⟩
theorem mid_within {e : En} {s : Sn} (hs : s.ok) : e.within (e.mid s) := by
  have hl := nar_le (r := e.r) hs
  refine ⟨Nat.le_refl _, ?_, ?_⟩
  · simp [En.mid]
  · simp [En.mid]; omega
theorem step_within (e : En) (s : Sn) : (e.mid s).within (e.step s) := by
  refine ⟨by simp [En.mid, En.step], ?_, ?_⟩
  · simp [En.mid, En.step]
  · simp [En.mid, En.step, lift, Nat.add_mul]
theorem enc_within {e : En} {l : List Sn} (hl : ∀ s ∈ l, s.ok) : e.within (enc e l) := by
  induction l generalizing e with
  | nil => exact within_refl e
  | cons s l ih => exact within_trans (within_trans (mid_within (hl s (by simp))) (step_within e s)) (ih (fun t ht => hl t (by simp [ht])))

/-- The bytes of a number, k of them, the highest first. -/
def digs : Nat → Nat → List Int
  | 0, _ => []
  | k + 1, v => digs k (v / 256) ++ [((v % 256 : Nat) : Int)]
theorem digs_len (k v : Nat) : (digs k v).length = k := by
  induction k generalizing v with
  | zero => rfl
  | succ k ih => simp [digs, ih]
theorem digs_bd (k v : Nat) : BytesL (digs k v) := by
  induction k generalizing v with
  | zero => intro x hx; cases hx
  | succ k ih =>
    intro x hx
    rcases List.mem_append.1 hx with h | h
    · exact ih _ x h
    · simp at h; omega
theorem digs_snoc (k v b : Nat) (hb : b < 256) : digs (k + 1) (v * 256 + b) = digs k v ++ [(b : Int)] := by
  simp only [digs]
  rw [show (v * 256 + b) / 256 = v by omega, show (v * 256 + b) % 256 = b by omega]
theorem digs_three (k v : Nat) : digs (k + 3) v = digs k (v / 16777216) ++ [((v / 65536 % 256 : Nat) : Int), ((v / 256 % 256 : Nat) : Int), ((v % 256 : Nat) : Int)] := by
  simp only [digs, List.append_assoc, List.cons_append, List.nil_append]
  rw [show v / 256 / 256 / 256 = v / 16777216 by omega, show v / 256 / 256 = v / 65536 by omega]
/-- One more, where not all are 255. -/
theorem digs_carry (k v j : Nat) (hj : j ≤ k) (h : v % 256 ^ j = 256 ^ j - 1) : digs k v = digs (k - j) (v / 256 ^ j) ++ List.replicate j 255 := by
  induction j with
  | zero => simp
  | succ j ih =>
    have hp := Nat.pow_pos (n := j) (show 0 < 256 by decide)
    have e : 256 ^ (j + 1) = 256 ^ j * 256 := Nat.pow_succ ..
    have h1 : v % 256 ^ j = 256 ^ j - 1 := by
      have : v % 256 ^ (j + 1) % 256 ^ j = v % 256 ^ j := by rw [e]; exact Nat.mod_mul_right_mod _ _ _
      rw [← this, h, e]
      have : 256 ^ j * 256 - 1 = 256 ^ j * 255 + (256 ^ j - 1) := by omega
      rw [this, Nat.mul_add_mod]
      exact Nat.mod_eq_of_lt (by omega)
    have h2 : v / 256 ^ j % 256 = 255 := by
      rw [← Nat.mod_mul_right_div_self, ← e, h, e]
      have : 256 ^ j * 256 - 1 = 256 ^ j * 255 + (256 ^ j - 1) := by omega
      rw [this, Nat.mul_add_div hp, Nat.div_eq_of_lt (by omega)]
    rw [ih (by omega) h1]
    obtain ⟨m, hm⟩ : ∃ m, k - j = m + 1 := ⟨k - j - 1, by omega⟩
    rw [hm, show k - (j + 1) = m by omega]
    simp only [digs]
    rw [h2, Nat.div_div_eq_div_mul, ← e, List.append_assoc, List.replicate_succ]
    rfl
/-- The number of the first m bytes; behind the end they are 0. -/
def numF (xs : List Int) : Nat → Nat
  | 0 => 0
  | m + 1 => numF xs m * 256 + (xs.getD m 0).toNat
theorem digs_get (k v i : Nat) (hi : i < k) : (digs k v).getD i 0 = ((v / 256 ^ (k - 1 - i) % 256 : Nat) : Int) := by
  induction k generalizing v with
  | zero => omega
  | succ k ih =>
    simp only [digs]
    rw [List.getD_eq_getElem?_getD]
    by_cases h : i < k
    · rw [List.getElem?_append_left (by rw [digs_len]; exact h), ← List.getD_eq_getElem?_getD, ih _ h, Nat.div_div_eq_div_mul]
      congr 3
      rw [← Nat.pow_succ']
      congr 1; omega
    · have : i = k := by omega
      subst this
      rw [List.getElem?_append_right (by rw [digs_len]; omega), digs_len]
      simp
theorem numF_digs (k v m : Nat) (hm : m ≤ k) (hv : v < 256 ^ k) : numF (digs k v) m = v / 256 ^ (k - m) := by
  induction m with
  | zero => simp only [numF]; rw [Nat.sub_zero, Nat.div_eq_of_lt hv]
  | succ m ih =>
    simp only [numF]
    rw [ih (by omega), digs_get k v m (by omega), Int.toNat_natCast]
    have e : 256 ^ (k - m) = 256 ^ (k - 1 - m) * 256 := by rw [← Nat.pow_succ]; congr 1; omega
    rw [e, ← Nat.div_div_eq_div_mul, show k - (m + 1) = k - 1 - m by omega]
    omega
theorem numF_congr {xs ys : List Int} (h : ∀ i, xs.getD i 0 = ys.getD i 0) (m : Nat) : numF xs m = numF ys m := by
  induction m with
  | zero => rfl
  | succ m ih => simp only [numF]; rw [ih, h m]
/-- Noughts at the end are taken away. -/
def trim (xs : List Int) : List Int := (xs.reverse.dropWhile (· == 0)).reverse
theorem trim_snoc_zero (xs : List Int) : trim (xs ++ [0]) = trim xs := by simp [trim]
theorem trim_snoc (xs : List Int) (x : Int) (h : x ≠ 0) : trim (xs ++ [x]) = xs ++ [x] := by simp [trim, h]
theorem getD_snoc_zero (xs : List Int) (i : Nat) : (xs ++ [0]).getD i 0 = xs.getD i 0 := by
  rw [List.getD_eq_getElem?_getD, List.getD_eq_getElem?_getD]
  by_cases h : i < xs.length
  · rw [List.getElem?_append_left h]
  · have e1 : xs[i]? = none := List.getElem?_eq_none (by omega)
    rw [e1, List.getElem?_append_right (by omega)]
    rcases Nat.eq_zero_or_pos (i - xs.length) with h0 | h0
    · rw [h0]; rfl
    · have e2 : ([0] : List Int)[i - xs.length]? = none := List.getElem?_eq_none (by simp; omega)
      rw [e2]
theorem trim_get (xs : List Int) (i : Nat) : (trim xs).getD i 0 = xs.getD i 0 := by
  induction h : xs.length generalizing xs with
  | zero => have : xs = [] := List.eq_nil_of_length_eq_zero h; subst this; rfl
  | succ n ih =>
    obtain ⟨ys, x, rfl⟩ : ∃ ys x, xs = ys ++ [x] := ⟨xs.dropLast, xs.getLast (by intro e; rw [e] at h; simp at h), (List.dropLast_concat_getLast _).symm⟩
    by_cases hx : x = 0
    · subst hx
      rw [trim_snoc_zero, getD_snoc_zero]
      exact ih ys (by simpa using h)
    · rw [trim_snoc _ _ hx]
theorem trim_bd {xs : List Int} (h : BytesL xs) : BytesL (trim xs) := fun x hx => h x (by
  unfold trim at hx
  rw [List.mem_reverse] at hx
  exact List.mem_reverse.1 ((List.dropWhile_sublist _).mem hx))
theorem trim_len (xs : List Int) : (trim xs).length ≤ xs.length := by
  unfold trim
  rw [List.length_reverse]
  exact Nat.le_trans (List.dropWhile_sublist _).length_le (by simp)
theorem trim_last (xs : List Int) : trim xs = [] ∨ (trim xs).getD ((trim xs).length - 1) 0 ≠ 0 := by
  induction h : xs.length generalizing xs with
  | zero => have : xs = [] := List.eq_nil_of_length_eq_zero h; subst this; exact Or.inl rfl
  | succ n ih =>
    obtain ⟨ys, x, rfl⟩ : ∃ ys x, xs = ys ++ [x] := ⟨xs.dropLast, xs.getLast (by intro e; rw [e] at h; simp at h), (List.dropLast_concat_getLast _).symm⟩
    by_cases hx : x = 0
    · subst hx
      rw [trim_snoc_zero]
      exact ih ys (by simpa using h)
    · rw [trim_snoc _ _ hx]
      right
      simp [List.getD_eq_getElem?_getD, hx]

/-- What is told of a list of slots. -/
def encL (l : List Sn) : List Int := trim (digs ((enc en0 l).k + 3) (enc en0 l).n)
theorem encL_bd (l : List Sn) : BytesL (encL l) := trim_bd (digs_bd _ _)
theorem enc_num {l : List Sn} (hl : ∀ s ∈ l, s.ok) {m : Nat} (hm : m ≤ (enc en0 l).k + 3) : numF (encL l) m = (enc en0 l).n / 256 ^ ((enc en0 l).k + 3 - m) := by
  have hok := enc_ok en0_ok hl
  obtain ⟨h1, h2, h3⟩ := hok
  have hv : (enc en0 l).n < 256 ^ ((enc en0 l).k + 3) := by
    rw [Nat.pow_add]
    have : (256 : Nat) ^ 3 = 16777216 := by decide
    rw [this]; omega
  rw [← numF_digs _ _ m hm hv]
  exact numF_congr (trim_get _) m
/-- A slot is read back: where the coder stands at e, what was read less its number lies within its range. -/
theorem read_within {l : List Sn} (hl : ∀ s ∈ l, s.ok) {e : En} (hw : e.within (enc en0 l)) : e.n ≤ numF (encL l) (e.k + 3) ∧ numF (encL l) (e.k + 3) < e.n + e.r := by
  obtain ⟨h1, h2, h3⟩ := hw
  have hok := (enc_ok en0_ok hl).1
  rw [enc_num hl (by omega), show (enc en0 l).k + 3 - (e.k + 3) = (enc en0 l).k - e.k by omega]
  have hp := Nat.pow_pos (n := (enc en0 l).k - e.k) (show 0 < 256 by decide)
  refine ⟨(Nat.le_div_iff_mul_le hp).2 h2, (Nat.div_lt_iff_lt_mul hp).2 (by omega)⟩

/-- How many bytes there are. -/
theorem enc_small {e : En} {l : List Sn} (he : e.ok) (hl : ∀ s ∈ l, s.ok) (i : Nat) (h : 256 ^ e.k * 63 ^ i * 16777216 ≤ 65536 ^ i * e.r) :
    256 ^ (enc e l).k * 63 ^ (i + l.length) * 16777216 ≤ 65536 ^ (i + l.length) * (enc e l).r := by
  induction l generalizing e i with
  | nil => exact h
  | cons s l ih =>
    have hs := hl s (by simp)
    have := ih (step_ok he hs) (fun t ht => hl t (by simp [ht])) (i + 1) (by
      have hb := (nar_big hs he.1).2
      show 256 ^ (e.k + sh (nar e.r s)) * 63 ^ (i + 1) * 16777216 ≤ 65536 ^ (i + 1) * (nar e.r s * 256 ^ sh (nar e.r s))
      have q : 256 ^ e.k * 63 ^ i * 16777216 * 63 ≤ 65536 ^ i * (nar e.r s * 65536) := by
        calc 256 ^ e.k * 63 ^ i * 16777216 * 63 ≤ 65536 ^ i * e.r * 63 := Nat.mul_le_mul_right _ h
          _ = 65536 ^ i * (e.r * 63) := Nat.mul_assoc _ _ _
          _ ≤ _ := Nat.mul_le_mul_left _ hb
      have q2 := Nat.mul_le_mul_right (256 ^ sh (nar e.r s)) q
      rw [Nat.pow_add, Nat.pow_succ, Nat.pow_succ]
      generalize 256 ^ e.k = A at *
      generalize 256 ^ sh (nar e.r s) = B at *
      generalize 63 ^ i = C at *
      generalize 65536 ^ i = D at *
      generalize nar e.r s = R at *
      have e1 : A * B * (C * 63) * 16777216 = A * C * 16777216 * 63 * B := by
        simp only [Nat.mul_assoc, Nat.mul_comm, Nat.mul_left_comm]
      have e2 : D * 65536 * (R * B) = D * (R * 65536) * B := by
        simp only [Nat.mul_assoc, Nat.mul_comm, Nat.mul_left_comm]
      rw [e1, e2]; exact q2)
    rw [List.length_cons, show i + (l.length + 1) = i + 1 + l.length by omega]
    exact this
theorem pow16 (n : Nat) : (65536 : Nat) ^ n = 2 ^ (16 * n) := by rw [Nat.pow_mul]
theorem few {K M : Nat} (hM : M = 50) (h : 256 ^ K * 63 ^ (8 * M) ≤ 65536 ^ (8 * M)) : K ≤ 510 := by
  have g : ((2 : Nat) ^ 47) ^ M ≤ (63 ^ 8) ^ M := Nat.pow_le_pow_left (by decide) M
  rw [← Nat.pow_mul, ← Nat.pow_mul] at g
  have a : (256 : Nat) ^ K = 2 ^ (8 * K) := by rw [Nat.pow_mul]
  rw [a, pow16 (8 * M)] at h
  have c : (2 : Nat) ^ (8 * K) * 2 ^ (47 * M) ≤ 2 ^ (16 * (8 * M)) := Nat.le_trans (Nat.mul_le_mul_left _ g) h
  rw [← Nat.pow_add] at c
  have d := (Nat.pow_le_pow_iff_right (a := 2) (by decide)).1 c
  omega
theorem enc_k {l : List Sn} (hl : ∀ s ∈ l, s.ok) (hn : l.length ≤ 400) : (enc en0 l).k ≤ 510 := by
  have h := enc_small en0_ok hl 0 (by decide)
  rw [Nat.zero_add] at h
  have hr := (enc_ok en0_ok hl).2.1
  have h1 : 256 ^ (enc en0 l).k * 63 ^ l.length ≤ 65536 ^ l.length := by
    have : 256 ^ (enc en0 l).k * 63 ^ l.length * 16777216 ≤ 65536 ^ l.length * 16777216 := Nat.le_trans h (Nat.mul_le_mul_left _ hr)
    exact Nat.le_of_mul_le_mul_right this (by decide)
  obtain ⟨M, hM⟩ : ∃ M, M = 50 := ⟨_, rfl⟩
  refine few hM ?_
  obtain ⟨N, hN⟩ : ∃ N, N = 8 * M := ⟨_, rfl⟩
  have hlN : l.length ≤ N := by omega
  rw [← hN]
  have a : (63 : Nat) ^ N = 63 ^ l.length * 63 ^ (N - l.length) := by rw [← Nat.pow_add]; congr 1; omega
  have b : (65536 : Nat) ^ N = 65536 ^ l.length * 65536 ^ (N - l.length) := by rw [← Nat.pow_add]; congr 1; omega
  rw [a, b, ← Nat.mul_assoc]
  exact Nat.mul_le_mul h1 (Nat.pow_le_pow_left (by decide) _)
/-- The bytes are few enough to be decoded. -/
theorem encL_small {l : List Sn} (hl : ∀ s ∈ l, s.ok) (hn : l.length ≤ 400) : (encL l).length ≤ 513 := by
  have := trim_len (digs ((enc en0 l).k + 3) (enc en0 l).n)
  rw [digs_len] at this
  have := enc_k hl hn
  unfold encL
  omega

/-- The next value of a slot that was told. -/
def nextV (rest r tot : Nat) : Nat := min (rest / (r / tot)) (tot - 1)
theorem next_in {e : En} {s : Sn} {D : Nat} (hs : s.ok) (hr : 65536 ≤ e.r) (h1 : e.n + e.r / s.tot * s.lo ≤ D) (h2 : D < e.n + e.r / s.tot * s.lo + nar e.r s) :
    s.lo ≤ nextV (D - e.n) e.r s.tot ∧ nextV (D - e.n) e.r s.tot < s.lo + s.sz := by
  obtain ⟨t1, t2, t3, t4⟩ := hs
  have hu : 0 < e.r / s.tot := Nat.div_pos (by omega) (by omega)
  have hlo : s.lo ≤ (D - e.n) / (e.r / s.tot) := (Nat.le_div_iff_mul_le hu).2 (by rw [Nat.mul_comm]; omega)
  unfold nextV
  refine ⟨by omega, ?_⟩
  by_cases e1 : s.lo + s.sz = s.tot
  · have : min ((D - e.n) / (e.r / s.tot)) (s.tot - 1) ≤ s.tot - 1 := Nat.min_le_right _ _
    omega
  · have hn : nar e.r s = e.r / s.tot * s.sz := if_neg e1
    rw [hn] at h2
    have : (D - e.n) / (e.r / s.tot) < s.lo + s.sz := (Nat.div_lt_iff_lt_mul hu).2 (by rw [Nat.mul_comm, Nat.mul_add]; omega)
    omega
/-- The slots are read back, one behind the other: what the decoder holds ahead of the i-th one. -/
theorem read_slot {l : List Sn} (hl : ∀ s ∈ l, s.ok) (i : Nat) (hi : i < l.length) :
    (enc en0 (l.take i)).ok ∧ (enc en0 (l.take i)).n ≤ numF (encL l) ((enc en0 (l.take i)).k + 3) ∧ numF (encL l) ((enc en0 (l.take i)).k + 3) < (enc en0 (l.take i)).n + (enc en0 (l.take i)).r ∧
      (enc en0 (l.take i)).n + (enc en0 (l.take i)).r / l[i].tot * l[i].lo ≤ numF (encL l) ((enc en0 (l.take i)).k + 3) ∧ numF (encL l) ((enc en0 (l.take i)).k + 3) < (enc en0 (l.take i)).n + (enc en0 (l.take i)).r / l[i].tot * l[i].lo + nar (enc en0 (l.take i)).r l[i] := by
  have hti : ∀ s ∈ l.take i, s.ok := fun s hs => hl s (List.mem_of_mem_take hs)
  have hdi : ∀ s ∈ l.drop i, s.ok := fun s hs => hl s (List.mem_of_mem_drop hs)
  have hd1 : ∀ s ∈ l.drop (i + 1), s.ok := fun s hs => hl s (List.mem_of_mem_drop hs)
  have hw : (enc en0 (l.take i)).within (enc en0 l) := by
    have := enc_within (e := enc en0 (l.take i)) hdi
    rwa [← enc_append, List.take_append_drop] at this
  have hm : ((enc en0 (l.take i)).mid l[i]).within (enc en0 l) := by
    have h1 := step_within (enc en0 (l.take i)) l[i]
    have h2 := enc_within (e := (enc en0 (l.take i)).step l[i]) hd1
    have e : enc ((enc en0 (l.take i)).step l[i]) (l.drop (i + 1)) = enc en0 l := by
      rw [← enc_snoc, ← enc_append, ← List.take_succ_eq_append_getElem hi, List.take_append_drop]
    rw [e] at h2
    exact within_trans h1 h2
  have a := read_within hl hw
  have b := read_within hl hm
  exact ⟨enc_ok en0_ok hti, a.1, a.2, b.1, b.2⟩
end Go.Proofs.YthecfboplfmdmaaDoor.RangeM
