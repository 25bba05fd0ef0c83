/- What the decoder holds ahead of each slot of a list that was told. -/
import Derived.Test.YthecfboplfmdmaaDoorSlS
import Derived.Test.YthecfboplfmdmaaDoorTakT
import Derived.Test.YthecfboplfmdmaaDoorNar
namespace Go.Proofs.YthecfboplfmdmaaDoor.LnkM
open Go.ChangeShapes Go.WideShapes Go.ChangeAt Go.RowKit Go.Proofs.YthecfboplfmdmaaDoor.Num Go.Proofs.YthecfboplfmdmaaDoor.Sli Go.Proofs.YthecfboplfmdmaaDoor.CrcM Go.Proofs.YthecfboplfmdmaaDoor.Dec Go.Proofs.YthecfboplfmdmaaDoor.Nxt Go.Proofs.YthecfboplfmdmaaDoor.Byte Go.Proofs.YthecfboplfmdmaaDoor.TakS Go.Proofs.YthecfboplfmdmaaDoor.TakT Go.Proofs.YthecfboplfmdmaaDoor.RangeM Go.Proofs.YthecfboplfmdmaaDoor.SlS Go.Proofs.YthecfboplfmdmaaDoor.Nar

theorem pull_num {xs : List Int} (hx : BytesL xs) (a n : Nat) (rst : Int) (h : rst = (numF xs a : Int) - (n : Int)) : ∀ s, pull xs a rst s = (numF xs (a + s) : Int) - ((n * 256 ^ s : Nat) : Int) := by
  intro s
  induction s with
  | zero => simp only [pull, Nat.add_zero, Nat.pow_zero, Nat.mul_one]; exact h
  | succ s ih =>
    have hb := CrcM.getD_bd hx (a + s)
    show pull xs a rst s * 256 + xs.getD (a + s) 0 = ((numF xs (a + s) * 256 + (xs.getD (a + s) 0).toNat : Nat) : Int) - _
    rw [ih, Nat.pow_succ, ← Nat.mul_assoc]
    omega
theorem up_num (N s : Nat) : up (N : Int) s = ((N * 256 ^ s : Nat) : Int) := by
  induction s with
  | zero => simp [up]
  | succ s ih => show up (N : Int) s * 256 = _; rw [ih, Nat.pow_succ, ← Nat.mul_assoc]; omega
theorem shI_num (N : Nat) : shI (N : Int) = sh N := by
  unfold shI sh
  split <;> split <;> (try split) <;> (try split) <;> omega
theorem nV_num (rst r tot : Nat) (h : 1 ≤ tot) : nV (rst : Int) (r : Int) (tot : Int) = (nextV rst r tot : Int) := by
  unfold nV nextV
  rw [← Int.natCast_ediv, ← Int.natCast_ediv]
  omega
/-- The coder behind i slots. -/
def eAt (ls : List Sl3) (i : Nat) : En := enc en0 (sns (ls.take i))
/-- The decoder ahead of slot i. -/
def dAt (ls : List Sl3) (i : Nat) : Dv := ⟨encL (sns ls), ((eAt ls i).k + 3 : Nat), ((numF (encL (sns ls)) ((eAt ls i).k + 3) - (eAt ls i).n : Nat) : Int), ((eAt ls i).r : Int)⟩
variable {ls : List Sl3}
theorem sns_all (hok : ∀ j, j < ls.length → sG (ls.getD j (0, 0, 0)) = 0) : ∀ s ∈ sns ls, s.ok := by
  have := sns_ok (Nat.le_refl ls.length) hok
  rwa [List.take_length] at this
theorem sns_len : (sns ls).length = ls.length := by unfold sns; rw [List.length_map]
theorem take_sns (i : Nat) : sns (ls.take i) = (sns ls).take i := by unfold sns; rw [List.map_take]
theorem e_read (hok : ∀ j, j < ls.length → sG (ls.getD j (0, 0, 0)) = 0) (hl : ls.length ≤ 400) (i : Nat) :
    (eAt ls i).ok ∧ (eAt ls i).k ≤ 510 ∧ (eAt ls i).n ≤ numF (encL (sns ls)) ((eAt ls i).k + 3) ∧ numF (encL (sns ls)) ((eAt ls i).k + 3) < (eAt ls i).n + (eAt ls i).r := by
  have ha := sns_all hok
  unfold eAt
  rw [take_sns]
  have hti : ∀ s ∈ (sns ls).take i, s.ok := fun s hs => ha s (List.mem_of_mem_take hs)
  have hdi : ∀ s ∈ (sns ls).drop i, s.ok := fun s hs => ha s (List.mem_of_mem_drop hs)
  have hw : (enc en0 ((sns ls).take i)).within (enc en0 (sns ls)) := by
    have := enc_within (e := enc en0 ((sns ls).take i)) hdi
    rwa [← enc_append, List.take_append_drop] at this
  have a := read_within ha hw
  exact ⟨enc_ok en0_ok hti, enc_k hti (by rw [List.length_take, sns_len]; omega), a.1, a.2⟩
theorem l_len (hok : ∀ j, j < ls.length → sG (ls.getD j (0, 0, 0)) = 0) (hl : ls.length ≤ 400) : (encL (sns ls)).length ≤ 513 :=
  encL_small (sns_all hok) (by rw [sns_len]; exact hl)
theorem d_fault (hok : ∀ j, j < ls.length → sG (ls.getD j (0, 0, 0)) = 0) (hl : ls.length ≤ 400) (i : Nat) : dF (dAt ls i).xs.length (dAt ls i).at' (dAt ls i).rst (dAt ls i).rng = 0 := by
  obtain ⟨⟨r1, r2, _⟩, k1, n1, n2⟩ := e_read hok hl i
  have h5 := l_len hok hl
  unfold dF dAt
  dsimp only
  rw [if_neg (by omega), if_pos]
  unfold inB
  simp only [Bool.and_eq_true, decide_eq_true_eq]
  omega
theorem d_start (hok : ∀ j, j < ls.length → sG (ls.getD j (0, 0, 0)) = 0) (hl : ls.length ≤ 400) : stC (encL (sns ls)) = 0 ∧ stD (encL (sns ls)) = dAt ls 0 := by
  have h5 := l_len hok hl
  unfold stC stD
  rw [if_neg (by omega), if_neg (by omega)]
  refine ⟨rfl, ?_⟩
  have e1 := pull_num (encL_bd (sns ls)) 0 0 0 rfl 3
  have e0 : eAt ls 0 = en0 := by unfold eAt sns; simp [enc]
  unfold dAt
  rw [e0, e1]
  simp [en0]
theorem at_get {i : Nat} (hi : i < ls.length) : (sns ls)[i]'(by rw [sns_len]; exact hi) = toSn (ls.getD i (0, 0, 0)) := by
  unfold sns
  rw [List.getElem_map, List.getD_eq_getElem?_getD, List.getElem?_eq_getElem hi]
  rfl
theorem d_next (hok : ∀ j, j < ls.length → sG (ls.getD j (0, 0, 0)) = 0) (hl : ls.length ≤ 400) {i : Nat} (hi : i < ls.length) {lo sz tot : Int} (hx : ls.getD i (0, 0, 0) = (lo, sz, tot)) :
    nC (dAt ls i).xs.length (dAt ls i).at' (dAt ls i).rst (dAt ls i).rng tot = 0 ∧ nO (dAt ls i).xs.length (dAt ls i).at' (dAt ls i).rst (dAt ls i).rng tot = nV (dAt ls i).rst (dAt ls i).rng tot ∧ lo ≤ nV (dAt ls i).rst (dAt ls i).rng tot ∧ nV (dAt ls i).rst (dAt ls i).rng tot < lo + sz := by
  have h0 := hok i hi
  rw [hx] at h0
  obtain ⟨⟨t1, t2, t3, t4⟩, x1, x2, x3⟩ := sG_of h0
  dsimp only at x1 x2 x3
  have hd := d_fault hok hl i
  have hin : inB 1 1024 tot = true := by unfold inB; simp; omega
  refine ⟨by unfold nC; rw [if_pos hd, if_pos hin], by unfold nO; rw [if_pos hd, if_pos hin], ?_⟩
  have hr := read_slot (sns_all hok) i (by rw [sns_len]; exact hi)
  rw [at_get hi, hx, ← take_sns] at hr
  obtain ⟨e1, _, _, e4, e5⟩ := hr
  have := next_in ⟨t1, t2, t3, t4⟩ e1.1 e4 e5
  unfold dAt
  dsimp only
  rw [x3, nV_num _ _ _ t1]
  unfold eAt
  omega
theorem d_take (hok : ∀ j, j < ls.length → sG (ls.getD j (0, 0, 0)) = 0) (hl : ls.length ≤ 400) {i : Nat} (hi : i < ls.length) {lo sz tot : Int} (hx : ls.getD i (0, 0, 0) = (lo, sz, tot)) :
    tC (dAt ls i) lo sz tot = 0 ∧ tD (dAt ls i) lo sz tot = dAt ls (i + 1) := by
  have h0 := hok i hi
  rw [hx] at h0
  obtain ⟨hs, x1, x2, x3⟩ := sG_of h0
  dsimp only at x1 x2 x3
  have hd := d_fault hok hl i
  obtain ⟨_, _, v1, v2⟩ := d_next hok hl hi hx
  obtain ⟨he, hk, n1, n2⟩ := e_read hok hl i
  have hin : inB lo (lo + sz - 1) (nV (dAt ls i).rst (dAt ls i).rng tot) = true := by unfold inB; simp; omega
  obtain ⟨c1, c2⟩ := tC_in hd (show sF lo sz tot = 0 from h0) (by show ¬ 9996 < (((eAt ls i).k + 3 : Nat) : Int); omega) hin
  refine ⟨c1, c2.trans ?_⟩
  obtain ⟨_, _, m1, m2⟩ := e_read hok hl (i + 1)
  have hstep : eAt ls (i + 1) = (eAt ls i).step (toSn (lo, sz, tot)) := by
    unfold eAt
    rw [sns_take ls i hi, enc_snoc, hx]
  have hna := nar_nat (eAt ls i).r (toSn (lo, sz, tot)) hs
  have hst := start_nat (eAt ls i).r (toSn (lo, sz, tot))
  rw [← x1, ← x2, ← x3] at hna
  rw [← x1, ← x3] at hst
  simp only [if_true]
  unfold tN dAt
  dsimp only
  rw [hstep] at m1 m2 ⊢
  rw [hna, hst, shI_num, Int.toNat_natCast]
  unfold En.step at m1 m2 ⊢
  dsimp only at m1 m2 ⊢
  have hrs := read_slot (sns_all hok) i (by rw [sns_len]; exact hi)
  rw [at_get hi, hx, ← take_sns] at hrs
  have e4 := hrs.2.2.2.1
  unfold eAt at *
  generalize enc en0 (sns (ls.take i)) = e at *
  generalize toSn (lo, sz, tot) = sn at *
  generalize e.r / sn.tot * sn.lo = P at *
  generalize nar e.r sn = N at *
  rw [pull_num (encL_bd (sns ls)) (e.k + 3) (e.n + P) _ (by omega) (sh N), up_num]
  rw [show e.k + sh N + 3 = e.k + 3 + sh N by omega] at m1 m2 ⊢
  congr 1
  omega
end Go.Proofs.YthecfboplfmdmaaDoor.LnkM
