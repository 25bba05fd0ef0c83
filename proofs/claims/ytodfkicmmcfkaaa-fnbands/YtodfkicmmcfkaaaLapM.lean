/- The mathematics of frames that overlap: seams that are turned and turned back, laps and synths, what is fed and what is played, how great the numbers become, and that a frame comes back two frames later. No program is spoken of. -/
import Derived.Test.YtodfkicmmcfkaaaHalM
import Derived.Test.YtodfkicmmcfkaaaSampF
namespace Go.Proofs.Ytodfkicmmcfkaaa.LapM
open Go.ChangeShapes Go.WideShapes Go.ChangeAt Go.RowKit Go.Proofs.Ytodfkicmmcfkaaa.Num Go.Proofs.Ytodfkicmmcfkaaa.Samp Go.Proofs.Ytodfkicmmcfkaaa.SampF Go.Proofs.Ytodfkicmmcfkaaa.TurM Go.Proofs.Ytodfkicmmcfkaaa.HalM

/-- Both sides of a seam, each changed pair by pair by F. -/
def smA (F : Nat → Int → Int → Int × Int) (h : Nat) (l f : List Int) : List Int := mkL h (fun j => (F (h - 1 - j) (l.getD j 0) (f.getD (h - 1 - j) 0)).1)
def smB (F : Nat → Int → Int → Int × Int) (h : Nat) (l f : List Int) : List Int := mkL h (fun i => (F i (l.getD (h - 1 - i) 0) (f.getD i 0)).2)
theorem smA_len (F : Nat → Int → Int → Int × Int) (h : Nat) (l f : List Int) : (smA F h l f).length = h := mkL_len _ _
theorem smB_len (F : Nat → Int → Int → Int × Int) (h : Nat) (l f : List Int) : (smB F h l f).length = h := mkL_len _ _
theorem sm_inv {F G : Nat → Int → Int → Int × Int} (hFG : ∀ i a b, G i (F i a b).1 (F i a b).2 = (a, b)) {h : Nat} {l f : List Int} (hl : l.length = h) (hf : f.length = h) :
    smA G h (smA F h l f) (smB F h l f) = l ∧ smB G h (smA F h l f) (smB F h l f) = f := by
  constructor
  · apply ext_g (by rw [smA_len, hl])
    intro j hj
    rw [smA_len] at hj
    rw [show (smA G h (smA F h l f) (smB F h l f)).getD j 0 = (G (h - 1 - j) ((smA F h l f).getD j 0) ((smB F h l f).getD (h - 1 - j) 0)).1 from mkL_get _ hj]
    rw [show (smA F h l f).getD j 0 = (F (h - 1 - j) (l.getD j 0) (f.getD (h - 1 - j) 0)).1 from mkL_get _ hj]
    rw [show (smB F h l f).getD (h - 1 - j) 0 = (F (h - 1 - j) (l.getD (h - 1 - (h - 1 - j)) 0) (f.getD (h - 1 - j) 0)).2 from mkL_get _ (by omega)]
    rw [show h - 1 - (h - 1 - j) = j by omega, hFG]
  · apply ext_g (by rw [smB_len, hf])
    intro j hj
    rw [smB_len] at hj
    rw [show (smB G h (smA F h l f) (smB F h l f)).getD j 0 = (G j ((smA F h l f).getD (h - 1 - j) 0) ((smB F h l f).getD j 0)).2 from mkL_get _ hj]
    rw [show (smB F h l f).getD j 0 = (F j (l.getD (h - 1 - j) 0) (f.getD j 0)).2 from mkL_get _ hj]
    rw [show (smA F h l f).getD (h - 1 - j) 0 = (F (h - 1 - (h - 1 - j)) (l.getD (h - 1 - j) 0) (f.getD (h - 1 - (h - 1 - j)) 0)).1 from mkL_get _ (by omega)]
    rw [show h - 1 - (h - 1 - j) = j by omega, hFG]
/-- What is turned behind k rounds of a seam: the first list is written from its end on. -/
def saS (m k : Nat) (v : Nat → Int) : List Int := mkL m (fun j => if m - 1 - j < k then v j else 0)
theorem saS_len (m k : Nat) (v : Nat → Int) : (saS m k v).length = m := mkL_len _ _
theorem saS_zero (m : Nat) (v : Nat → Int) : saS m 0 v = List.replicate m 0 := by
  apply ext_g (by rw [saS_len, List.length_replicate])
  intro i hi
  rw [saS_len] at hi
  rw [show (saS m 0 v).getD i 0 = if m - 1 - i < 0 then v i else 0 from mkL_get _ hi, if_neg (by omega)]
  simp [List.getD_eq_getElem?_getD, hi]
theorem saS_end (m : Nat) (v : Nat → Int) : saS m m v = mkL m v := mkL_congr (fun i hi => if_pos (by omega))
theorem saS_set {m k : Nat} (hk : k < m) (v : Nat → Int) : (saS m k v).set (m - 1 - k) (v (m - 1 - k)) = saS m (k + 1) v := by
  apply ext_g (by simp [saS_len])
  intro j hj
  simp only [List.length_set, saS_len] at hj
  rw [getD_set _ _ _ _ (by simpa [saS_len] using hj)]
  unfold saS
  rw [mkL_get _ hj, mkL_get _ hj]
  by_cases e : m - 1 - k = j
  · subst e; rw [if_pos rfl, if_pos (by omega)]
  · rw [if_neg e]
    by_cases e2 : m - 1 - j < k
    · rw [if_pos e2, if_pos (by omega)]
    · rw [if_neg e2, if_neg (by omega)]

/-- Half of a size. -/
def hN (s : Int) : Nat := s.toNat / 2
def tlB (v : Int) : Bool := inB (-268435456) 268435456 v
/-- The codes of laps and synths. -/
def lfC (s : Int) (half rest : List Int) : Int := if szF s = 0 then (if half.length = hN s ∧ rest.length = hN s then (if half.all blB = true ∧ rest.all sampB = true then 0 else 3) else 2) else 3
def syC (s : Int) (head tail : List Int) : Int := if szF s = 0 then (if head.length = hN s ∧ tail.length = hN s then (if head.all hdB = true ∧ tail.all tlB = true then 0 else 3) else 2) else 3
/-- What is fed: the code, the next lap's halves, the coefficients. -/
def fdC (s : Int) (half rest fr : List Int) : Int := if lfC s half rest = 0 then smF s fr else lfC s half rest
def fdT (s : Int) (rest fr : List Int) : List Int := smA (ahF s.toNat) (hN s) rest (fr.take (hN s))
def fdH (s : Int) (rest fr : List Int) : List Int := smB (ahF s.toNat) (hN s) rest (fr.take (hN s))
def fdK (s : Int) (half rest fr : List Int) : List Int := sp (dep s.toNat) (half ++ fdT s rest fr)
/-- What is played: the code, the next synth's halves, the last half of the frame. -/
def plC (s : Int) (head tail co : List Int) : Int := if syC s head tail = 0 then (if (co.length : Int) = s then gbC co else 2) else syC s head tail
def plB (s : Int) (co : List Int) : List Int := ga (dep s.toNat) co
def plT (s : Int) (tail co : List Int) : List Int := smA (bkF s.toNat) (hN s) tail ((plB s co).take (hN s))
def plH (s : Int) (tail co : List Int) : List Int := smB (bkF s.toNat) (hN s) tail ((plB s co).take (hN s))
/-- A size that is one. -/
theorem sz_nat {s : Int} (h : szF s = 0) : is3 s.toNat = true ∧ (s.toNat : Int) = s ∧ s.toNat = 2 * hN s ∧ 2 ≤ hN s ∧ hN s ≤ 8 ∧ s / 2 = (hN s : Int) := by
  rcases sz_cases h with rfl | rfl | rfl <;> decide
/-- Samples. -/
def smL (l : List Int) : Prop := ∀ i, -32768 ≤ l.getD i 0 ∧ l.getD i 0 ≤ 32767
theorem smL_all {l : List Int} : l.all sampB = true ↔ smL l := by
  rw [List.all_eq_true]
  constructor
  · intro h i
    by_cases hi : i < l.length
    · rw [List.getD_eq_getElem?_getD, List.getElem?_eq_getElem hi, Option.getD_some]
      exact of_inB (h _ (List.getElem_mem hi))
    · rw [List.getD_eq_getElem?_getD, List.getElem?_eq_none (by omega), Option.getD_none]; omega
  · intro h x hx
    obtain ⟨i, hi, rfl⟩ := List.getElem_of_mem hx
    have := h i
    rw [List.getD_eq_getElem?_getD, List.getElem?_eq_getElem hi, Option.getD_some] at this
    exact inB_yes this.1 this.2
theorem lim_tl {l : List Int} : l.all tlB = true ↔ lim 268435456 l := lim_all (by omega)
theorem lim_hd {l : List Int} : l.all hdB = true ↔ lim 1073741824 l := lim_all (by omega)
theorem lim_bl {l : List Int} : l.all blB = true ↔ lim 65536 l := lim_all (by omega)
theorem smL.lim {l : List Int} (h : smL l) : lim 32768 l := fun i => by have := h i; omega
theorem take_get (l : List Int) (h i : Nat) : (l.take h).getD i 0 = if i < h then l.getD i 0 else 0 := by
  by_cases e : i < h
  · rw [if_pos e, List.getD_eq_getElem?_getD, List.getD_eq_getElem?_getD, List.getElem?_take_of_lt e]
  · rw [if_neg e, List.getD_eq_getElem?_getD, List.getElem?_eq_none (by rw [List.length_take]; omega), Option.getD_none]
theorem drop_get (l : List Int) (h i : Nat) : (l.drop h).getD i 0 = l.getD (h + i) 0 := by
  rw [List.getD_eq_getElem?_getD, List.getD_eq_getElem?_getD, List.getElem?_drop]
theorem lim_take {M : Int} {l : List Int} (h : lim M l) (n : Nat) : lim M (l.take n) := fun i => by
  rw [take_get]; split
  · exact h i
  · have := h.pos; omega
theorem lim_drop {M : Int} {l : List Int} (h : lim M l) (n : Nat) : lim M (l.drop n) := fun i => by rw [drop_get]; exact h _
theorem smL_take {l : List Int} (h : smL l) (n : Nat) : smL (l.take n) := fun i => by
  rw [take_get]; split
  · exact h i
  · omega
theorem smL_drop {l : List Int} (h : smL l) (n : Nat) : smL (l.drop n) := fun i => by rw [drop_get]; exact h _
theorem lim_app {M : Int} {a b : List Int} (ha : lim M a) (hb : lim M b) : lim M (a ++ b) := fun i => by
  by_cases e : i < a.length
  · rw [List.getD_eq_getElem?_getD, List.getElem?_append_left e, ← List.getD_eq_getElem?_getD]; exact ha i
  · rw [List.getD_eq_getElem?_getD, List.getElem?_append_right (by omega), ← List.getD_eq_getElem?_getD]; exact hb _

/-- How far a sample goes when it is turned. -/
theorem ten_near (v : Int) : -512 ≤ 1024 * tenV v - v ∧ 1024 * tenV v - v ≤ 512 := by unfold tenV; omega
theorem ah_smp {s n a b : Int} (h : tOk s n = true) (ha : -32768 ≤ a ∧ a ≤ 32768) (hb : -32768 ≤ b ∧ b ≤ 32768) :
    (-65536 ≤ ahA (pV s n) (uV s n) a b ∧ ahA (pV s n) (uV s n) a b ≤ 65536) ∧ (-65536 ≤ ahB (pV s n) (uV s n) a b ∧ ahB (pV s n) (uV s n) a b ≤ 65536) := by
  obtain ⟨k, hk, _, _, e1, e2⟩ := ok_cases h
  rw [e1, e2]
  clear h e1 e2
  unfold ahA ahB
  have t1 := ten_near (rP k * b)
  generalize tenV (rP k * b) = x at *
  have t2 := ten_near (rU k * (a - x))
  generalize tenV (rU k * (a - x)) = y at *
  have t3 := ten_near (rP k * (b + y))
  generalize tenV (rP k * (b + y)) = z at *
  rcases k with _ | _ | _ | _ | _ | _ | _ | _ | _ | _ | _ | _ | _ | _ | k
  all_goals first | omega | (simp only [rP, rU, rowL, List.getD_cons_succ, List.getD_cons_zero] at t1 t2 t3; omega)
/-- How far numbers go when they are turned back. -/
theorem bk_far {p u a b M : Int} (hp : 1 ≤ p ∧ p ≤ 395 ∧ 1 ≤ u ∧ u ≤ 688) (hM : 1000 ≤ M) (ha : -M ≤ a ∧ a ≤ M) (hb : -M ≤ b ∧ b ≤ M) :
    (-(3 * M) ≤ bkA p u a b ∧ bkA p u a b ≤ 3 * M) ∧ (-(3 * M) ≤ bkB p u a b ∧ bkB p u a b ≤ 3 * M) := by
  unfold bkA bkB
  have m1 := mul_bd (P := 395) (B := M) (by omega) hp.2.1 hb.1 hb.2 (by omega)
  have t1 := ten_bd m1.1 m1.2
  generalize tenV (p * b) = x at *
  have m2 := mul_bd (p := u) (b := a + x) (P := 688) (B := M + (395 * M / 1024 + 1)) (by omega) hp.2.2.2 (by omega) (by omega) (by omega)
  have t2 := ten_bd m2.1 m2.2
  generalize tenV (u * (a + x)) = y at *
  have m3 := mul_bd (p := p) (b := b - y) (P := 395) (B := M + (688 * (M + (395 * M / 1024 + 1)) / 1024 + 1)) (by omega) hp.2.1 (by omega) (by omega) (by omega)
  have t3 := ten_bd m3.1 m3.2
  generalize tenV (p * (b - y)) = z at *
  clear m1 m2 m3
  omega
theorem bk_near {p u a b M : Int} (hp : 1 ≤ p ∧ p ≤ 178 ∧ 1 ≤ u ∧ u ≤ 345) (ha : -M ≤ a ∧ a ≤ M) (hb : -M ≤ b ∧ b ≤ M) :
    (-(3 * M / 2 + 4) ≤ bkA p u a b ∧ bkA p u a b ≤ 3 * M / 2 + 4) ∧ (-(3 * M / 2 + 4) ≤ bkB p u a b ∧ bkB p u a b ≤ 3 * M / 2 + 4) := by
  unfold bkA bkB
  have m1 := mul_bd (P := 178) (B := M) (by omega) hp.2.1 hb.1 hb.2 (by omega)
  have t1 := ten_bd m1.1 m1.2
  generalize tenV (p * b) = x at *
  have m2 := mul_bd (p := u) (b := a + x) (P := 345) (B := M + (178 * M / 1024 + 1)) (by omega) hp.2.2.2 (by omega) (by omega) (by omega)
  have t2 := ten_bd m2.1 m2.2
  generalize tenV (u * (a + x)) = y at *
  have m3 := mul_bd (p := p) (b := b - y) (P := 178) (B := M + (345 * (M + (178 * M / 1024 + 1)) / 1024 + 1)) (by omega) hp.2.1 (by omega) (by omega) (by omega)
  have t3 := ten_bd m3.1 m3.2
  generalize tenV (p * (b - y)) = z at *
  clear m1 m2 m3
  omega
theorem lim_un2 {M : Int} {s d : List Int} (hn : sz4 (2 * s.length)) (hM : 40 ≤ M) (hs : lim M s) (hd : lim M d) : lim (2 * M) (un s d) := by
  refine lim_mkL (by omega) (fun j hj => ?_)
  have he : lim (3 * M / 2 + 4) (unB (2 * s.length) d) := lim_prL hn (by omega) hd (fun i a b h2 hi ha hb => bk_near (row_small hn h2 hi).2 ha hb)
  unfold unE
  by_cases hq : j < 2 * s.length / 2
  · rw [if_pos hq]; have := hs j; have := he j; omega
  · rw [if_neg hq]; have := hs (2 * s.length - 1 - j); have := he (2 * s.length - 1 - j); omega
theorem lim_ga2 : ∀ (k : Nat) {M : Int} {c : List Int}, k ≤ 4 → 40 ≤ M → c.length = 2 ^ k → lim M c → lim (2 ^ k * M) (ga k c)
  | 0, M, c, _, _, _, h => by rw [show (2 : Int) ^ 0 * M = M by omega]; exact h
  | k + 1, M, c, hk, hM, hl, h => by
    have h1 : (ev c).length = 2 ^ k := by rw [ev_len, hl, Nat.pow_succ]; omega
    have h2 : (od c).length = 2 ^ k := by rw [od_len, hl, Nat.pow_succ]; omega
    have e : (2 : Int) ^ (k + 1) * M = 2 * (2 ^ k * M) := by rw [Int.pow_succ, Int.mul_comm ((2 : Int) ^ k) 2, Int.mul_assoc]
    have hp : (1 : Int) ≤ 2 ^ k := by rcases k with _ | _ | _ | _ | k <;> first | decide | omega
    have hge : 40 ≤ 2 ^ k * M := Int.le_trans hM (by have := Int.mul_le_mul_of_nonneg_right hp (show 0 ≤ M by omega); omega)
    rw [e]
    exact lim_un2 (by rw [ga_len k _ h1, show 2 * 2 ^ k = 2 ^ (k + 1) by rw [Nat.pow_succ]; omega]; exact sz4_pow hk) hge (lim_ga2 k (by omega) hM h1 (lim_ev h)) (lim_ga2 k (by omega) hM h2 (lim_od h))
theorem turn_at {s : Int} (h : szF s = 0) {i : Nat} (hi : i < hN s) : tOk (s.toNat : Int) (i : Int) = true := by
  obtain ⟨_, e, _, _, _, e2⟩ := sz_nat h
  rw [e]
  exact decide_eq_true ⟨h, by omega, by omega⟩
end Go.Proofs.Ytodfkicmmcfkaaa.LapM
