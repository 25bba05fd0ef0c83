/- The mathematics of bounds: what is turned back, parted, gathered and played out of numbers that are off by no more than their bounds. No program is spoken of. -/
import Derived.Test.YtbbejjlgfekipaaLapN
namespace Go.Proofs.Ytbbejjlgfekipaa.BndM
open Go.ChangeShapes Go.WideShapes Go.ChangeAt Go.RowKit Go.Proofs.Ytbbejjlgfekipaa.Num Go.Proofs.Ytbbejjlgfekipaa.Samp Go.Proofs.Ytbbejjlgfekipaa.SampF Go.Proofs.Ytbbejjlgfekipaa.TurM Go.Proofs.Ytbbejjlgfekipaa.HalM Go.Proofs.Ytbbejjlgfekipaa.LapM Go.Proofs.Ytbbejjlgfekipaa.LapN

/-- The share of a number and a bound; the three steps with bounds. -/
def shV (p e : Int) : Int := ceilV (p * e) 1024
def tbA (p u a b : Int) : Int := (a + shV p b) + shV p (b + shV u (a + shV p b))
def tbB (p u a b : Int) : Int := b + shV u (a + shV p b)
def tbF (n i : Nat) (a b : Int) : Int × Int := (tbA (pV n i) (uV n i) a b, tbB (pV n i) (uV n i) a b)
/-- A bound. -/
def bdB (a : Int) : Bool := inB 0 137438953472 a
def tbO (s n a b : Int) : Bool := tOk s n && (bdB a && bdB b)
def tbC (s n a b : Int) : Int := if tbO s n a b = true then 0 else 3
def tbX (s n a b : Int) : Int := if tbO s n a b = true then tbA (pV s n) (uV s n) a b else 0
def tbY (s n a b : Int) : Int := if tbO s n a b = true then tbB (pV s n) (uV s n) a b else 0
def pbC (s d : Int) : Int := if (bdB s && bdB d) = true then 0 else 3
def pbE (s d : Int) : Int := if (bdB s && bdB d) = true then s + ceilV d 2 else 0
/-- Bounds that are gathered. -/
def ubE (n : Nat) (s e : List Int) (j : Nat) : Int := if j < n / 2 then s.getD j 0 + ceilV (e.getD j 0) 2 else s.getD (n - 1 - j) 0 + ceilV (e.getD (n - 1 - j) 0) 2
def ub (s d : List Int) : List Int := mkL (2 * s.length) (ubE (2 * s.length) s (prL (tbF (2 * s.length)) (2 * s.length) d))
def gaB : Nat → List Int → List Int
  | 0, c => c
  | k + 1, c => ub (gaB k (ev c)) (gaB k (od c))
theorem ub_len (s d : List Int) : (ub s d).length = 2 * s.length := mkL_len _ _
theorem gaB_len : ∀ (k : Nat) (c : List Int), c.length = 2 ^ k → (gaB k c).length = 2 ^ k
  | 0, _, h => h
  | k + 1, c, h => by
    show (ub (gaB k (ev c)) (gaB k (od c))).length = _
    rw [ub_len, gaB_len k (ev c) (by rw [ev_len, h, Nat.pow_succ]; omega), Nat.pow_succ]; omega
def mbB (v : Int) : Bool := inB 0 67108864 v
def gbdC (c : List Int) : Int := if is3 c.length = true then (if c.all mbB = true then 0 else 3) else 2
def gbdL (c : List Int) : List Int := if gbdC c = 0 then gaB (dep c.length) c else []
/-- The bounds of a frame. -/
def frB (s : Int) (x y z : List Int) : List Int :=
  smB (tbF s.toNat) (hN s) ((gaB (dep s.toNat) x).drop (hN s)) ((gaB (dep s.toNat) y).take (hN s)) ++ smA (tbF s.toNat) (hN s) ((gaB (dep s.toNat) y).drop (hN s)) ((gaB (dep s.toNat) z).take (hN s))
def frC (s : Int) (x y z : List Int) : Int :=
  if szF s = 0 then (if (x.length : Int) = s ∧ (y.length : Int) = s ∧ (z.length : Int) = s then (if gbdC x = 0 then (if gbdC y = 0 then gbdC z else gbdC y) else gbdC x) else 2) else 3
def frL (s : Int) (x y z : List Int) : List Int := if frC s x y z = 0 then frB s x y z else []
/-- Whether numbers differ by no more than bounds tell. -/
def wiB (a b e : List Int) : Bool := decide (a.length = b.length ∧ a.length = e.length ∧ ∀ i, i < a.length → (-1099511627776 ≤ a.getD i 0 ∧ a.getD i 0 ≤ 1099511627776) ∧ (-1099511627776 ≤ b.getD i 0 ∧ b.getD i 0 ≤ 1099511627776) ∧ absV (a.getD i 0 - b.getD i 0) ≤ e.getD i 0)

/-- Numbers that are off by no more than e. -/
def nr (e x y : Int) : Prop := -e ≤ x - y ∧ x - y ≤ e
theorem nr_add {e f x y u v : Int} (h : nr e x y) (k : nr f u v) : nr (e + f) (x + u) (y + v) := by unfold nr at *; omega
theorem nr_sub {e f x y u v : Int} (h : nr e x y) (k : nr f u v) : nr (e + f) (x - u) (y - v) := by unfold nr at *; omega
theorem nr_mul {p e x y : Int} (hp : 0 ≤ p) (h : nr e x y) : nr (p * e) (p * x) (p * y) := by
  obtain ⟨h1, h2⟩ := h
  have a1 := Int.mul_le_mul_of_nonneg_left h2 hp
  have a2 := Int.mul_le_mul_of_nonneg_left h1 hp
  rw [Int.mul_sub] at a1 a2
  rw [Int.mul_neg] at a2
  exact ⟨a2, a1⟩
theorem nr_ten {p e x y : Int} (hp : 0 ≤ p) (h : nr e x y) : nr (shV p e) (tenV (p * x)) (tenV (p * y)) := by
  obtain ⟨h1, h2⟩ := nr_mul hp h
  unfold nr shV ceilV tenV
  omega
theorem nr_half {e x y : Int} (h : nr e x y) : nr (ceilV e 2) (x / 2) (y / 2) := by unfold nr ceilV at *; omega
theorem nr_up {e x y : Int} (h : nr e x y) : nr (ceilV e 2) (x - x / 2) (y - y / 2) := by unfold nr ceilV at *; omega
theorem bk_nr {p u a b a' b' e f : Int} (hp : 0 ≤ p) (hu : 0 ≤ u) (ha : nr e a a') (hb : nr f b b') :
    nr (tbA p u e f) (bkA p u a b) (bkA p u a' b') ∧ nr (tbB p u e f) (bkB p u a b) (bkB p u a' b') := by
  have h1 := nr_add ha (nr_ten hp hb)
  have h2 := nr_sub hb (nr_ten hu h1)
  exact ⟨nr_add h1 (nr_ten hp h2), h2⟩
theorem pt_nr {s d s' d' e f : Int} (hs : nr e s s') (hd : nr f d d') :
    nr (e + ceilV f 2) ((s - d / 2) + d) ((s' - d' / 2) + d') ∧ nr (e + ceilV f 2) (s - d / 2) (s' - d' / 2) := by
  have h1 := nr_add hs (nr_up hd)
  refine ⟨?_, nr_sub hs (nr_half hd)⟩
  rw [show (s - d / 2) + d = s + (d - d / 2) by omega, show (s' - d' / 2) + d' = s' + (d' - d' / 2) by omega]
  exact h1
/-- Lists. -/
def nrL (e x y : List Int) : Prop := ∀ i, nr (e.getD i 0) (x.getD i 0) (y.getD i 0)
theorem nrL_mk {m : Nat} {f g h : Nat → Int} (H : ∀ i, i < m → nr (f i) (g i) (h i)) : nrL (mkL m f) (mkL m g) (mkL m h) := by
  intro i
  by_cases hi : i < m
  · rw [mkL_get _ hi, mkL_get _ hi, mkL_get _ hi]; exact H i hi
  · rw [mkL_far _ (by omega), mkL_far _ (by omega), mkL_far _ (by omega)]; unfold nr; omega
theorem nrL_ev {e x y : List Int} (h : nrL e x y) (h1 : x.length = e.length) (h2 : y.length = e.length) : nrL (ev e) (ev x) (ev y) := by
  unfold ev; rw [h1, h2]; exact nrL_mk (fun i _ => h _)
theorem nrL_od {e x y : List Int} (h : nrL e x y) (h1 : x.length = e.length) (h2 : y.length = e.length) : nrL (od e) (od x) (od y) := by
  unfold od; rw [h1, h2]; exact nrL_mk (fun i _ => h _)
theorem nrL_take {e x y : List Int} (h : nrL e x y) (n : Nat) : nrL (e.take n) (x.take n) (y.take n) := fun i => by
  rw [take_get, take_get, take_get]
  split
  · exact h i
  · unfold nr; omega
theorem nrL_drop {e x y : List Int} (h : nrL e x y) (n : Nat) : nrL (e.drop n) (x.drop n) (y.drop n) := fun i => by
  rw [drop_get, drop_get, drop_get]; exact h _
theorem nrL_app {e x y f u v : List Int} (h : nrL e x y) (k : nrL f u v) (h1 : x.length = e.length) (h2 : y.length = e.length) : nrL (e ++ f) (x ++ u) (y ++ v) := fun i => by
  by_cases hi : i < e.length
  · have := h i
    simp only [List.getD_eq_getElem?_getD] at this ⊢
    rwa [List.getElem?_append_left hi, List.getElem?_append_left (by omega), List.getElem?_append_left (by omega)]
  · have := k (i - e.length)
    simp only [List.getD_eq_getElem?_getD] at this ⊢
    rwa [List.getElem?_append_right (by omega), List.getElem?_append_right (by omega), List.getElem?_append_right (by omega), h1, h2]
/-- A turn of a size, at a place of a seam or of a half. -/
theorem pu_pos {n i : Nat} : 0 ≤ pV n i ∧ 0 ≤ uV n i := by
  unfold pV uV
  generalize ix (n : Int) (i : Int) = k
  by_cases hk : k < 14
  · have := row_bd k hk; omega
  · unfold rP rU
    rw [List.getD_eq_getElem?_getD, List.getElem?_eq_none (by simp [rowL]; omega)]
    decide
theorem bkF_nr (n i : Nat) {a b a' b' e f : Int} (ha : nr e a a') (hb : nr f b b') : nr (tbF n i e f).1 (bkF n i a b).1 (bkF n i a' b').1 ∧ nr (tbF n i e f).2 (bkF n i a b).2 (bkF n i a' b').2 :=
  bk_nr pu_pos.1 pu_pos.2 ha hb
theorem prL_nr (n : Nat) {e x y : List Int} (h : nrL e x y) : nrL (prL (tbF n) n e) (prL (bkF n) n x) (prL (bkF n) n y) :=
  nrL_mk (fun j _ => by
    unfold prE
    split
    · exact h j
    · split
      · exact (bkF_nr n _ (h _) (h _)).1
      · exact (bkF_nr n _ (h _) (h _)).2)
theorem un_nr {es ed s d s' d' : List Int} (hs : nrL es s s') (hd : nrL ed d d') (h1 : s.length = es.length) (h2 : s'.length = es.length) : nrL (ub es ed) (un s d) (un s' d') := by
  unfold ub un
  rw [h1, h2]
  refine nrL_mk (fun j _ => ?_)
  have hp := prL_nr (2 * es.length) hd
  unfold ubE unE unB
  split
  · exact (pt_nr (hs _) (hp _)).1
  · exact (pt_nr (hs _) (hp _)).2
theorem ga_nr : ∀ (k : Nat) {e c c' : List Int}, e.length = 2 ^ k → c.length = 2 ^ k → c'.length = 2 ^ k → nrL e c c' → nrL (gaB k e) (ga k c) (ga k c')
  | 0, _, _, _, _, _, _, h => h
  | k + 1, e, c, c', he, hc, hc', h => by
    have f1 : ∀ l : List Int, l.length = 2 ^ (k + 1) → (ev l).length = 2 ^ k ∧ (od l).length = 2 ^ k := fun l hl => by
      rw [ev_len, od_len, hl, Nat.pow_succ]; omega
    have hev := nrL_ev h (by omega) (by omega)
    have hod := nrL_od h (by omega) (by omega)
    exact un_nr (ga_nr k (f1 e he).1 (f1 c hc).1 (f1 c' hc').1 hev) (ga_nr k (f1 e he).2 (f1 c hc).2 (f1 c' hc').2 hod) (by rw [ga_len k _ (f1 c hc).1, gaB_len k _ (f1 e he).1]) (by rw [ga_len k _ (f1 c' hc').1, gaB_len k _ (f1 e he).1])
theorem sm_nr (n h : Nat) {e x y f u v : List Int} (hx : nrL e x y) (hu : nrL f u v) : nrL (smA (tbF n) h e f) (smA (bkF n) h x u) (smA (bkF n) h y v) ∧ nrL (smB (tbF n) h e f) (smB (bkF n) h x u) (smB (bkF n) h y v) :=
  ⟨nrL_mk (fun _ _ => (bkF_nr n _ (hx _) (hu _)).1), nrL_mk (fun _ _ => (bkF_nr n _ (hx _) (hu _)).2)⟩
/-- The frame between three blocks. -/
def frV (s : Int) (x y z : List Int) : List Int :=
  smB (bkF s.toNat) (hN s) ((plB s x).drop (hN s)) ((plB s y).take (hN s)) ++ smA (bkF s.toNat) (hN s) ((plB s y).drop (hN s)) ((plB s z).take (hN s))
theorem fr_nr {s : Int} (h0 : szF s = 0) {e1 e2 e3 x1 x2 x3 y1 y2 y3 : List Int}
    (l1 : e1.length = s.toNat ∧ x1.length = s.toNat ∧ y1.length = s.toNat) (l2 : e2.length = s.toNat ∧ x2.length = s.toNat ∧ y2.length = s.toNat) (l3 : e3.length = s.toNat ∧ x3.length = s.toNat ∧ y3.length = s.toNat)
    (h1 : nrL e1 x1 y1) (h2 : nrL e2 x2 y2) (h3 : nrL e3 x3 y3) : nrL (frB s e1 e2 e3) (frV s x1 x2 x3) (frV s y1 y2 y3) := by
  obtain ⟨d1, d2⟩ := dep_of h0
  have g1 := ga_nr (dep s.toNat) (by rw [← d1]; exact l1.1) (by rw [← d1]; exact l1.2.1) (by rw [← d1]; exact l1.2.2) h1
  have g2 := ga_nr (dep s.toNat) (by rw [← d1]; exact l2.1) (by rw [← d1]; exact l2.2.1) (by rw [← d1]; exact l2.2.2) h2
  have g3 := ga_nr (dep s.toNat) (by rw [← d1]; exact l3.1) (by rw [← d1]; exact l3.2.1) (by rw [← d1]; exact l3.2.2) h3
  exact nrL_app (sm_nr _ _ (nrL_drop g1 _) (nrL_take g2 _)).2 (sm_nr _ _ (nrL_drop g2 _) (nrL_take g3 _)).1 (by rw [smB_len, smB_len]) (by rw [smB_len, smB_len])
theorem frB_len (s : Int) (x y z : List Int) : (frB s x y z).length = hN s + hN s := by unfold frB; rw [List.length_append, smB_len, smA_len]
theorem frV_len (s : Int) (x y z : List Int) : (frV s x y z).length = hN s + hN s := by unfold frV; rw [List.length_append, smB_len, smA_len]
/-- What differs by no more than its bounds, and is not too great. -/
theorem wi_yes {a b e : List Int} (h1 : a.length = b.length) (h2 : a.length = e.length) (ha : lim 1099511627776 a) (hb : lim 1099511627776 b) (h : nrL e a b) : wiB a b e = true :=
  decide_eq_true ⟨h1, h2, fun i _ => ⟨ha i, hb i, by have := h i; unfold nr at this; unfold absV; split <;> omega⟩⟩
end Go.Proofs.Ytbbejjlgfekipaa.BndM
