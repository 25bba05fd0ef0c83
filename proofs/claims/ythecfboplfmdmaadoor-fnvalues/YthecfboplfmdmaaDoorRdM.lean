/- Whatever a decoder holds, it tells a class and pieces, and stays a right one. -/
import Derived.Test.YthecfboplfmdmaaDoorValM
namespace Go.Proofs.YthecfboplfmdmaaDoor.RdM
open Go.Proofs.YthecfboplfmdmaaDoor.Num Go.Proofs.YthecfboplfmdmaaDoor.CrcM Go.Proofs.YthecfboplfmdmaaDoor.Div Go.Proofs.YthecfboplfmdmaaDoor.Dec Go.Proofs.YthecfboplfmdmaaDoor.Nxt Go.Proofs.YthecfboplfmdmaaDoor.Byte Go.Proofs.YthecfboplfmdmaaDoor.TakS Go.Proofs.YthecfboplfmdmaaDoor.TakT Go.Proofs.YthecfboplfmdmaaDoor.RangeM Go.Proofs.YthecfboplfmdmaaDoor.SlS Go.Proofs.YthecfboplfmdmaaDoor.LnkM Go.Proofs.YthecfboplfmdmaaDoor.ValZ Go.Proofs.YthecfboplfmdmaaDoor.ValM

/-- A right decoder from which at most m slots were taken. -/
structure dOk (d : Dv) (m : Nat) : Prop where
  f : dF d.xs.length d.at' d.rst d.rng = 0
  x : BytesL d.xs
  a : d.at' ≤ 3 + 2 * (m : Int)
theorem dF_zero {n : Nat} {at' rst rng : Int} (h0 : n ≤ 600) (h1 : 0 ≤ at') (h2 : at' ≤ 10000) (h3 : 65536 ≤ rng) (h4 : rng ≤ 16777216) (h5 : 0 ≤ rst) (h6 : rst < rng) : dF n at' rst rng = 0 := by
  rw [dF_in (by omega) (inB_yes h1 h2) (inB_yes h3 h4) (inB_yes h5 (by omega))]
  rfl
theorem dOk.start {xs : List Int} (h : xs.length ≤ 600) (hx : BytesL xs) : dOk (stD xs) 0 ∧ (stD xs).xs = xs := by
  unfold stD
  rw [if_neg (by omega)]
  have hp := pull_bd xs hx 0 0 1 (by omega) (by omega) 3
  have e : up 1 3 = 16777216 := by decide
  rw [e] at hp
  exact ⟨⟨dF_zero (at' := 3) (rng := 16777216) h (by omega) (by omega) (by omega) (by omega) hp.1 hp.2, hx, by dsimp only; omega⟩, rfl⟩
/-- What is next lies on its line. -/
theorem nV_bd {d : Dv} {m : Nat} (h : dOk d m) {tot : Int} (h1 : 1 ≤ tot) (h2 : tot ≤ 1024) : 0 ≤ nV d.rst d.rng tot ∧ nV d.rst d.rng tot < tot := by
  obtain ⟨_, _, ⟨h3, h4⟩, h8, h9⟩ := of_dF h.f
  obtain ⟨_, u1, _⟩ := unit_bd d.rng tot h3 h4 h1 h2
  obtain ⟨_, v1, _⟩ := val_bd d.rst (d.rng / tot) h8 (by omega) u1
  unfold nV
  omega
/-- A slot in which the next value lies is taken. -/
theorem take_ok {d : Dv} {m : Nat} (h : dOk d m) (hm : m ≤ 400) {lo sz tot : Int} (hs : sF lo sz tot = 0) (v1 : lo ≤ nV d.rst d.rng tot) (v2 : nV d.rst d.rng tot < lo + sz) :
    tC d lo sz tot = 0 ∧ tD d lo sz tot = tN d lo sz tot ∧ dOk (tN d lo sz tot) (m + 1) ∧ (tN d lo sz tot).xs = d.xs := by
  have ha := h.a
  have hin : inB lo (lo + sz - 1) (nV d.rst d.rng tot) = true := inB_yes v1 (by omega)
  obtain ⟨c1, c2⟩ := tC_in h.f hs (by omega) hin
  refine ⟨c1, c2, ?_, rfl⟩
  obtain ⟨hn, ⟨ha1, ha2⟩, ⟨h1, h2⟩, h8, h9⟩ := of_dF h.f
  obtain ⟨⟨h3, h4⟩, ⟨h5, h5'⟩, h6, h7⟩ := of_sF hs
  obtain ⟨r1, r2⟩ := slot_in d.rst d.rng lo sz tot h1 h2 h3 h4 (by omega) (by omega) v1 (by omega)
  obtain ⟨m1, m2, m3⟩ := narI_bd d.rng lo sz tot h1 h2 h3 h4 h5 h6 (by omega)
  unfold tN
  generalize narI d.rng lo sz tot = N at *
  have hk := shI_le N
  obtain ⟨u1, u2, _, u4⟩ := up_bd N m1 (by omega) (shI N) (Nat.le_refl _)
  have hp := pull_bd d.xs h.x d.at'.toNat _ _ r1 r2 (shI N)
  refine ⟨dF_zero hn (by dsimp only; omega) (by dsimp only; omega) (u4 rfl) u2 hp.1 hp.2, h.x, ?_⟩
  dsimp only
  omega
theorem sF_of {s : Sl3} (h : sG s = 0) : sF s.1 s.2.1 s.2.2 = 0 := h
theorem kN_lt {d : Dv} {m : Nat} (h : dOk d m) : kN d < 18 ∧ (lwc (kN d) : Int) ≤ nV d.rst d.rng 256 ∧ nV d.rst d.rng 256 < (lwc (kN d) : Int) + (shr (kN d) : Int) ∧ 0 ≤ nV d.rst d.rng 256 ∧ nV d.rst d.rng 256 < 256 := by
  have hb := nV_bd h (tot := 256) (by omega) (by omega)
  unfold kN
  generalize nV d.rst d.rng 256 = v at *
  obtain ⟨n, rfl⟩ := Int.eq_ofNat_of_zero_le hb.1
  obtain ⟨h1, h2, h3⟩ := cOf_in n (by omega)
  rw [Int.toNat_natCast]
  omega
theorem k_ok {d : Dv} {m : Nat} (h : dOk d m) (hm : m ≤ 400) : tC d (lwc (kN d)) (shr (kN d)) 256 = 0 ∧ tD d (lwc (kN d)) (shr (kN d)) 256 = kD d ∧ dOk (kD d) (m + 1) ∧ (kD d).xs = d.xs := by
  obtain ⟨h1, h2, h3, _⟩ := kN_lt h
  exact take_ok h hm (sF_of (cSl_ok h1)) h2 h3
theorem pN_lt {d : Dv} {m k : Nat} (h : dOk d m) (hk : k ≤ 8) : pN d k < 2 ^ k ∧ (pN d k : Int) = nV d.rst d.rng ((2 ^ k : Nat) : Int) := by
  have h1 : 2 ^ k ≤ 2 ^ 8 := Nat.pow_le_pow_right (by decide) hk
  have h2 := Nat.two_pow_pos k
  have hb := nV_bd h (tot := ((2 ^ k : Nat) : Int)) (by omega) (by omega)
  unfold pN
  omega
theorem p_ok {d : Dv} {m k : Nat} (h : dOk d m) (hm : m ≤ 400) (hk : k ≤ 8) : tC d (pN d k) 1 ((2 ^ k : Nat) : Int) = 0 ∧ tD d (pN d k) 1 ((2 ^ k : Nat) : Int) = pD d k ∧ dOk (pD d k) (m + 1) ∧ (pD d k).xs = d.xs := by
  obtain ⟨h1, h2⟩ := pN_lt h hk
  exact take_ok h hm (sF_of (pSl_ok hk h1)) (by omega) (by omega)
/-- The pieces of a class are few and small. -/
theorem pcs_bd {c : Nat} (h : c < 18) : (pcs c).length ≤ 2 ∧ ∀ k ∈ pcs c, 1 ≤ k ∧ k ≤ 8 := by
  unfold pcs
  split
  · simp
  · split
    · simp; omega
    · simp; omega
theorem ps_ok {d : Dv} {m : Nat} (h : dOk d m) {ps : List Nat} (hm : m + ps.length ≤ 400) (hp : ∀ k ∈ ps, k ≤ 8) : dOk (psD d ps) (m + ps.length) ∧ (psD d ps).xs = d.xs := by
  induction ps generalizing d m with
  | nil => exact ⟨h, rfl⟩
  | cons k t ih =>
    rw [List.length_cons] at hm
    obtain ⟨_, _, h3, h4⟩ := p_ok h (by omega) (hp k (by simp))
    obtain ⟨r1, r2⟩ := ih h3 (by omega) (fun x hx => hp x (by simp [hx]))
    refine ⟨?_, r2.trans h4⟩
    rw [List.length_cons, show m + (t.length + 1) = m + 1 + t.length by omega]
    exact r1
theorem z_ok {d : Dv} {m : Nat} (h : dOk d m) (hm : m ≤ 300) : dOk (zD d) (m + 3) ∧ (zD d).xs = d.xs := by
  obtain ⟨h1, _⟩ := kN_lt h
  obtain ⟨_, _, h3, h4⟩ := k_ok h (by omega)
  obtain ⟨p1, p2⟩ := pcs_bd h1
  obtain ⟨r1, r2⟩ := ps_ok h3 (by omega) (fun k hk => (p2 k hk).2)
  refine ⟨⟨r1.f, r1.x, ?_⟩, r2.trans h4⟩
  have := r1.a
  unfold zD
  omega
theorem r_ok {d : Dv} {n : Nat} (h : dOk d 0) (hn : n ≤ 64) : dOk (rD d n) (3 * n) ∧ (rD d n).xs = d.xs := by
  induction n with
  | zero => exact ⟨h, rfl⟩
  | succ n ih =>
    obtain ⟨h1, h2⟩ := ih (by omega)
    rw [(rV_snoc d n).2]
    obtain ⟨r1, r2⟩ := z_ok h1 (by omega)
    exact ⟨by rw [show 3 * (n + 1) = 3 * n + 3 by omega]; exact r1, r2.trans h2⟩
/-- The number that is told has at most seventeen digits. -/
theorem psN_lt {d : Dv} {m z s : Nat} (h : dOk d m) {ps : List Nat} (hm : m + ps.length ≤ 400) (hp : ∀ k ∈ ps, k ≤ 8) (hz : z < 2 ^ s) : psN d z ps < 2 ^ (s + ps.sum) := by
  induction ps generalizing d m z s with
  | nil => exact hz
  | cons k t ih =>
    rw [List.length_cons] at hm
    obtain ⟨_, _, h3, h4⟩ := p_ok h (by omega) (hp k (by simp))
    obtain ⟨h1, _⟩ := pN_lt h (hp k (by simp))
    have := ih (z := z * 2 ^ k + pN d k) (s := s + k) h3 (by omega) (fun x hx => hp x (by simp [hx])) (by
      rw [Nat.pow_add]
      have := Nat.mul_le_mul_right (2 ^ k) (show z + 1 ≤ 2 ^ s by omega)
      rw [Nat.add_mul] at this
      omega)
    show psN (pD d k) (z * 2 ^ k + pN d k) t < _
    rw [List.sum_cons, ← Nat.add_assoc]
    exact this
theorem pcs_sum {c : Nat} (h : c < 18) (h1 : 1 ≤ c) : (pcs c).sum = c - 1 := by
  unfold pcs
  split
  · simp; omega
  · split
    · simp; omega
    · simp
theorem zN_lt {d : Dv} {m : Nat} (h : dOk d m) (hm : m ≤ 300) : zN d ≤ 131071 := by
  obtain ⟨h1, _⟩ := kN_lt h
  obtain ⟨_, _, h3, h4⟩ := k_ok h (by omega)
  obtain ⟨p1, p2⟩ := pcs_bd h1
  unfold zN
  split
  · omega
  · rename_i h0
    have := psN_lt (z := 1) (s := 1) h3 (ps := pcs (kN d)) (by omega) (fun k hk => (p2 k hk).2) (by decide)
    rw [pcs_sum h1 (by omega)] at this
    have h2 : 2 ^ (1 + (kN d - 1)) ≤ 2 ^ 17 := Nat.pow_le_pow_right (by decide) (by omega)
    omega
end Go.Proofs.YthecfboplfmdmaaDoor.RdM
