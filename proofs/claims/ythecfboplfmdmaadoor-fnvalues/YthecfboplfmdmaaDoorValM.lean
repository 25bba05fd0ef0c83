/- Values: the plain mathematics: that values are read back from their slots' bytes; how many bytes these are. -/
import Derived.Test.YthecfboplfmdmaaDoorValZ
import Derived.Test.YthecfboplfmdmaaDoorLnkM
namespace Go.Proofs.YthecfboplfmdmaaDoor.ValM
open Go.Proofs.YthecfboplfmdmaaDoor.Num Go.Proofs.YthecfboplfmdmaaDoor.Div Go.Proofs.YthecfboplfmdmaaDoor.Dec Go.Proofs.YthecfboplfmdmaaDoor.Nxt Go.Proofs.YthecfboplfmdmaaDoor.TakS Go.Proofs.YthecfboplfmdmaaDoor.TakT Go.Proofs.YthecfboplfmdmaaDoor.RangeM Go.Proofs.YthecfboplfmdmaaDoor.SlS Go.Proofs.YthecfboplfmdmaaDoor.LnkM Go.Proofs.YthecfboplfmdmaaDoor.ValZ

/-! Reading back. -/
/-- A piece of k digits that a decoder tells. -/
def pN (d : Dv) (k : Nat) : Nat := (nV d.rst d.rng ((2 ^ k : Nat) : Int)).toNat
def pD (d : Dv) (k : Nat) : Dv := tN d (pN d k : Int) 1 ((2 ^ k : Nat) : Int)
/-- The class that a decoder tells. -/
def kN (d : Dv) : Nat := cOf (nV d.rst d.rng 256).toNat
def kD (d : Dv) : Dv := tN d (lwc (kN d)) (shr (kN d)) 256
/-- The pieces, one behind the other, onto a number. -/
def psN (d : Dv) (z : Nat) : List Nat → Nat
  | [] => z
  | k :: t => psN (pD d k) (z * 2 ^ k + pN d k) t
def psD (d : Dv) : List Nat → Dv
  | [] => d
  | k :: t => psD (pD d k) t
/-- The next number that a decoder tells, and the decoder behind it. -/
def zN (d : Dv) : Nat := if kN d = 0 then 0 else psN (kD d) 1 (pcs (kN d))
def zD (d : Dv) : Dv := psD (kD d) (pcs (kN d))
/-- n values. -/
def rV (d : Dv) : Nat → List Int
  | 0 => []
  | n + 1 => uz (zN d) :: rV (zD d) n
def rD (d : Dv) : Nat → Dv
  | 0 => d
  | n + 1 => rD (zD d) n
theorem rV_len (d : Dv) (n : Nat) : (rV d n).length = n := by
  induction n generalizing d with
  | zero => rfl
  | succ n ih => simp only [rV, List.length_cons, ih]
theorem rV_snoc (d : Dv) (n : Nat) : rV d (n + 1) = rV d n ++ [uz (zN (rD d n))] ∧ rD d (n + 1) = zD (rD d n) := by
  induction n generalizing d with
  | zero => exact ⟨rfl, rfl⟩
  | succ n ih =>
    obtain ⟨h1, h2⟩ := ih (zD d)
    refine ⟨?_, h2⟩
    show uz (zN d) :: rV (zD d) (n + 1) = (uz (zN d) :: rV (zD d) n) ++ _
    rw [h1]; rfl

variable {ls : List Sl3}
theorem k_at (hok : ∀ j, j < ls.length → sG (ls.getD j (0, 0, 0)) = 0) (hl : ls.length ≤ 400) {i c : Nat} (hi : i < ls.length) (hc : c < 18) (hx : ls.getD i (0, 0, 0) = cSl c) : kN (dAt ls i) = c ∧ kD (dAt ls i) = dAt ls (i + 1) := by
  obtain ⟨_, _, v1, v2⟩ := d_next hok hl hi hx
  obtain ⟨t1, t2⟩ := d_take hok hl hi hx
  have h0 := lwc_bd c hc
  have hk : kN (dAt ls i) = c := by
    unfold kN
    exact cOf_eq c hc _ (by omega) (by omega) (by omega)
  refine ⟨hk, ?_⟩
  unfold kD
  rw [hk, ← t2]
  unfold tD
  rw [if_pos t1]
theorem p_at (hok : ∀ j, j < ls.length → sG (ls.getD j (0, 0, 0)) = 0) (hl : ls.length ≤ 400) {i x k : Nat} (hi : i < ls.length) (hx : ls.getD i (0, 0, 0) = pSl x k) : pN (dAt ls i) k = x ∧ pD (dAt ls i) k = dAt ls (i + 1) := by
  obtain ⟨_, _, v1, v2⟩ := d_next hok hl hi hx
  obtain ⟨t1, t2⟩ := d_take hok hl hi hx
  have hk : pN (dAt ls i) k = x := by unfold pN; omega
  refine ⟨hk, ?_⟩
  unfold pD
  rw [hk, ← t2]
  unfold tD
  rw [if_pos t1]
theorem get_of {a b : List Sl3} {s : Sl3} (h : ls = a ++ s :: b) : a.length < ls.length ∧ ls.getD a.length (0, 0, 0) = s := by
  subst h
  refine ⟨by simp, ?_⟩
  rw [List.getD_eq_getElem?_getD, List.getElem?_append_right (Nat.le_refl _)]
  simp
theorem dig_last {z c : Nat} (h1 : 1 ≤ c) (h2 : 2 ^ (c - 1) ≤ z) (h3 : z < 2 ^ c) : 1 * 2 ^ (c - 1) + z % 2 ^ (c - 1) = z := by
  have e : 2 ^ c = 2 ^ (c - 1) * 2 := by rw [← Nat.pow_succ]; congr 1; omega
  rw [e] at h3
  generalize 2 ^ (c - 1) = t at *
  have : z % t = z - t := by rw [Nat.mod_eq_sub_mod h2, Nat.mod_eq_of_lt (by omega)]
  omega
theorem dig_two {z c : Nat} (h1 : 10 ≤ c) (h2 : 2 ^ (c - 1) ≤ z) (h3 : z < 2 ^ c) : (1 * 2 ^ (c - 9) + z / 256 % 2 ^ (c - 9)) * 2 ^ 8 + z % 256 = z := by
  have e1 : 2 ^ (c - 1) = 2 ^ (c - 9) * 256 := by rw [show c - 1 = c - 9 + 8 by omega, Nat.pow_add]
  have e2 : 2 ^ c = 2 ^ (c - 8) * 256 := by rw [show 2 ^ c = 2 ^ (c - 8 + 8) by congr 1; omega, Nat.pow_add]
  rw [e1] at h2
  rw [e2] at h3
  have := dig_last (z := z / 256) (c := c - 8) (by omega) (by rw [show c - 8 - 1 = c - 9 by omega]; exact (Nat.le_div_iff_mul_le (by decide)).2 h2) ((Nat.div_lt_iff_lt_mul (by decide)).2 h3)
  rw [show c - 8 - 1 = c - 9 by omega] at this
  rw [this]
  omega
/-- A number is read back. -/
theorem z_at (hok : ∀ j, j < ls.length → sG (ls.getD j (0, 0, 0)) = 0) (hl : ls.length ≤ 400) {z : Nat} (hz : z ≤ 131071) {a b : List Sl3} (h : ls = a ++ (zSl z ++ b)) : zN (dAt ls a.length) = z ∧ zD (dAt ls a.length) = dAt ls (a ++ zSl z).length := by
  have hc := cl_le hz
  have hc0 : cl z = 0 → z = 0 := fun e => by
    by_cases h0 : z = 0
    · exact h0
    · have := (cl_bd h0).1; omega
  have hz0 : z = 0 → cl z = 0 := fun e => by subst e; rfl
  have hbd : 1 ≤ cl z → 2 ^ (cl z - 1) ≤ z ∧ z < 2 ^ cl z := fun e => (cl_bd (fun e2 => by have := hz0 e2; omega)).2
  unfold zSl at h ⊢
  generalize cl z = c at *
  obtain ⟨i1, g1⟩ := get_of (ls := ls) (s := cSl c) (by simpa using h)
  obtain ⟨k1, k2⟩ := k_at hok hl i1 (by omega) g1
  unfold zN zD
  rw [k1, k2]
  by_cases h2 : c < 2
  · have e1 : pcs c = [] := if_pos h2
    have e2 : rSl z c = [] := if_pos h2
    rw [e1, e2]
    simp only [psN, psD]
    refine ⟨?_, by simp⟩
    by_cases h0 : c = 0
    · rw [if_pos h0]; exact (hc0 h0).symm
    · rw [if_neg h0]
      obtain rfl : c = 1 := by omega
      have := hbd (by omega)
      simp at this
      omega
  · rw [if_neg (by omega)]
    by_cases h8 : 8 < c - 1
    · have e1 : pcs c = [c - 9, 8] := by unfold pcs; rw [if_neg h2, if_pos h8]
      have e2 : rSl z c = [pSl (z / 256 % 2 ^ (c - 9)) (c - 9), pSl (z % 256) 8] := by unfold rSl; rw [if_neg h2, if_pos h8]
      rw [e1]
      rw [e2] at h ⊢
      obtain ⟨i2, g2⟩ := get_of (ls := ls) (a := a ++ [cSl c]) (s := pSl (z / 256 % 2 ^ (c - 9)) (c - 9)) (b := pSl (z % 256) 8 :: b) (by rw [h]; simp)
      obtain ⟨i3, g3⟩ := get_of (ls := ls) (a := a ++ [cSl c, pSl (z / 256 % 2 ^ (c - 9)) (c - 9)]) (s := pSl (z % 256) 8) (b := b) (by rw [h]; simp)
      rw [show (a ++ [cSl c]).length = a.length + 1 by simp] at i2 g2
      rw [show (a ++ [cSl c, pSl (z / 256 % 2 ^ (c - 9)) (c - 9)]).length = a.length + 1 + 1 by simp] at i3 g3
      obtain ⟨p1, p2⟩ := p_at hok hl i2 g2
      obtain ⟨q1, q2⟩ := p_at hok hl i3 g3
      simp only [psN, psD]
      rw [p1, p2, q1, q2]
      have hb := hbd (by omega)
      exact ⟨dig_two (by omega) hb.1 hb.2, by simp⟩
    · have e1 : pcs c = [c - 1] := by unfold pcs; rw [if_neg h2, if_neg h8]
      have e2 : rSl z c = [pSl (z % 2 ^ (c - 1)) (c - 1)] := by unfold rSl; rw [if_neg h2, if_neg h8]
      rw [e1]
      rw [e2] at h ⊢
      obtain ⟨i2, g2⟩ := get_of (ls := ls) (a := a ++ [cSl c]) (s := pSl (z % 2 ^ (c - 1)) (c - 1)) (b := b) (by rw [h]; simp)
      rw [show (a ++ [cSl c]).length = a.length + 1 by simp] at i2 g2
      obtain ⟨p1, p2⟩ := p_at hok hl i2 g2
      simp only [psN, psD]
      rw [p1, p2]
      have hb := hbd (by omega)
      exact ⟨dig_last (by omega) hb.1 hb.2, by simp⟩
theorem vs_at {all pre suf : List Int} (hv : allV all) (hl : all.length ≤ 64) (h : all = pre ++ suf) : rV (dAt (vSl all) (vSl pre).length) suf.length = suf ∧ rD (dAt (vSl all) (vSl pre).length) suf.length = dAt (vSl all) (vSl all).length := by
  have hlen := vSl_len all
  induction suf generalizing pre with
  | nil =>
    rw [List.append_nil] at h
    subst h
    exact ⟨rfl, rfl⟩
  | cons v t ih =>
    have hz : zg v ≤ 131071 := by have := zg_le (hv v (by rw [h]; simp)); omega
    obtain ⟨z1, z2⟩ := z_at (vSl_ok hv) (by omega) hz (a := vSl pre) (b := vSl t) (by rw [h, vSl_append]; rfl)
    have hh : all = (pre ++ [v]) ++ t := by rw [h]; simp
    have e : vSl (pre ++ [v]) = vSl pre ++ zSl (zg v) := by rw [vSl_append]; simp [vSl]
    obtain ⟨r1, r2⟩ := ih hh
    rw [e] at r1 r2
    show uz (zN _) :: rV (zD _) t.length = v :: t ∧ rD (zD _) t.length = _
    rw [z1, z2, uz_zg, r1]
    exact ⟨rfl, r2⟩
/-- Values are read back from their bytes. -/
theorem read_back {vs : List Int} (hv : allV vs) (hl : vs.length ≤ 64) : rV (stD (vB vs)) vs.length = vs ∧ (vB vs).length ≤ 600 := by
  have hlen := vSl_len vs
  have h5 := l_len (vSl_ok hv) (by omega)
  obtain ⟨_, s2⟩ := d_start (vSl_ok hv) (by omega)
  have := (vs_at (pre := []) hv hl rfl).1
  refine ⟨?_, by unfold vB; omega⟩
  unfold vB
  rw [s2]
  exact this
/-- What DecodeValues answers. -/
def okV (xs : List Int) (n : Nat) : Prop := allV (rV (stD xs) n) ∧ vB (rV (stD xs) n) = xs
/-- There is one such list at most, and it is the one that is read. -/
theorem okV_iff {xs vs : List Int} (hv : allV vs) (hl : vs.length ≤ 64) (h : vB vs = xs) : rV (stD xs) vs.length = vs ∧ okV xs vs.length := by
  subst h
  have := (read_back hv hl).1
  unfold okV
  rw [this]
  exact ⟨rfl, hv, rfl⟩

/-! How many bytes there are. -/
theorem pot_step {e : En} {s : Sn} {A B M D : Nat} (h : 256 ^ e.k * A ≤ B * e.r) (hn : e.r * M ≤ nar e.r s * D) : 256 ^ (e.step s).k * (A * M) ≤ B * D * (e.step s).r := by
  show 256 ^ (e.k + sh (nar e.r s)) * (A * M) ≤ B * D * (nar e.r s * 256 ^ sh (nar e.r s))
  rw [Nat.pow_add]
  generalize 256 ^ e.k = K at *
  generalize 256 ^ sh (nar e.r s) = S at *
  generalize nar e.r s = R at *
  have q1 := Nat.mul_le_mul_right M h
  have q2 := Nat.mul_le_mul_left B hn
  have q3 : K * A * M ≤ B * (R * D) := Nat.le_trans q1 (by rw [Nat.mul_assoc]; exact q2)
  have q4 := Nat.mul_le_mul_right S q3
  have e1 : K * S * (A * M) = K * A * M * S := by simp only [Nat.mul_comm, Nat.mul_left_comm]
  have e2 : B * D * (R * S) = B * (R * D) * S := by simp only [Nat.mul_comm, Nat.mul_left_comm]
  rw [e1, e2]; exact q4
theorem unit_near {r t : Nat} (hr : 65536 ≤ r) (h1 : 1 ≤ t) (h2 : t ≤ 256) : r ≤ r / t * 257 := by
  have h3 : 256 ≤ r / t := (Nat.le_div_iff_mul_le h1).2 (by have := Nat.mul_le_mul_left 256 h2; omega)
  have h4 := Nat.div_add_mod r t
  have h5 := Nat.mod_lt r h1
  generalize r / t = u at *
  have h6 : t * u ≤ 256 * u := Nat.mul_le_mul_right u h2
  omega
theorem nar_class {r c : Nat} (hc : c < 18) (hr : 65536 ≤ r) : r * 2 ≤ nar r (toSn (cSl c)) * 257 := by
  have h1 := nar_unit (r := r) (sG_of (cSl_ok hc)).1
  have e1 : (toSn (cSl c)).tot = 256 := rfl
  have e2 : (toSn (cSl c)).sz = shr c := by simp [toSn, cSl]
  rw [e1, e2] at h1
  have h2 := unit_near hr (show 1 ≤ 256 by decide) (Nat.le_refl _)
  have h3 := (lwc_bd c hc).2
  have h4 := Nat.mul_le_mul_left (r / 256) h3
  omega
theorem nar_piece {r x k : Nat} (hk : k ≤ 8) (hx : x < 2 ^ k) (hr : 65536 ≤ r) : r * 1 ≤ nar r (toSn (pSl x k)) * 257 := by
  have h1 := nar_unit (r := r) (sG_of (pSl_ok hk hx)).1
  have e1 : (toSn (pSl x k)).tot = 2 ^ k := by simp only [toSn, pSl, Int.toNat_natCast]
  have e2 : (toSn (pSl x k)).sz = 1 := rfl
  rw [e1, e2] at h1
  have hp : 2 ^ k ≤ 2 ^ 8 := Nat.pow_le_pow_right (by decide) hk
  have h2 := unit_near hr (Nat.two_pow_pos k) hp
  omega
theorem pot_more {K A B D r : Nat} (h : K * A ≤ B * r) (hD : 1 ≤ D) : K * A ≤ B * D * r := by
  refine Nat.le_trans h (Nat.mul_le_mul_right _ ?_)
  exact Nat.le_mul_of_pos_right _ hD
theorem pot_z {e : En} {z A B : Nat} (he : e.ok) (hz : z ≤ 131071) (h : 256 ^ e.k * A ≤ B * e.r) :
    (enc e (sns (zSl z))).ok ∧ 256 ^ (enc e (sns (zSl z))).k * (A * 2) ≤ B * 257 * 257 * 257 * (enc e (sns (zSl z))).r := by
  have hc := cl_le hz
  have hok : ∀ s ∈ sns (zSl z), s.ok := by
    intro s hs
    unfold sns at hs
    obtain ⟨x, hx, rfl⟩ := List.mem_map.1 hs
    exact (sG_of (zSl_ok hz x hx)).1
  refine ⟨enc_ok he hok, ?_⟩
  have hs0 : (toSn (cSl (cl z))).ok := (sG_of (cSl_ok (by omega))).1
  have p0 := pot_step h (nar_class (c := cl z) (by omega) he.1)
  have o0 := step_ok he hs0
  unfold zSl rSl
  generalize cl z = c at *
  by_cases h2 : c < 2
  · rw [if_pos h2]
    exact pot_more (pot_more p0 (by decide)) (by decide)
  · rw [if_neg h2]
    by_cases h8 : 8 < c - 1
    · rw [if_pos h8]
      have x1 : z / 256 % 2 ^ (c - 9) < 2 ^ (c - 9) := Nat.mod_lt _ (Nat.two_pow_pos _)
      have x2 : z % 256 < 2 ^ 8 := Nat.mod_lt _ (by decide)
      have hs1 := (sG_of (pSl_ok (k := c - 9) (by omega) x1)).1
      have p1 := pot_step p0 (nar_piece (k := c - 9) (by omega) x1 o0.1)
      have o1 := step_ok o0 hs1
      have p2 := pot_step p1 (nar_piece (k := 8) (by omega) x2 o1.1)
      rw [Nat.mul_one, Nat.mul_one] at p2
      exact p2
    · rw [if_neg h8]
      have x1 : z % 2 ^ (c - 1) < 2 ^ (c - 1) := Nat.mod_lt _ (Nat.two_pow_pos _)
      have p1 := pot_step p0 (nar_piece (k := c - 1) (by omega) x1 o0.1)
      rw [Nat.mul_one] at p1
      exact pot_more p1 (by decide)
theorem sns_append (a b : List Sl3) : sns (a ++ b) = sns a ++ sns b := by unfold sns; rw [List.map_append]
theorem pot_all {vs : List Int} (hv : allV vs) {e : En} {i : Nat} (he : e.ok) (h : 256 ^ e.k * (2 ^ i * 16777216) ≤ 16974593 ^ i * e.r) :
    (enc e (sns (vSl vs))).ok ∧ 256 ^ (enc e (sns (vSl vs))).k * (2 ^ (i + vs.length) * 16777216) ≤ 16974593 ^ (i + vs.length) * (enc e (sns (vSl vs))).r := by
  induction vs generalizing e i with
  | nil => exact ⟨he, h⟩
  | cons v t ih =>
    have hz : zg v ≤ 131071 := by have := zg_le (hv v (by simp)); omega
    obtain ⟨o, p⟩ := pot_z he hz h
    show (enc e (sns (zSl (zg v) ++ vSl t))).ok ∧ _ ≤ _ * (enc e (sns (zSl (zg v) ++ vSl t))).r
    rw [show sns (vSl (v :: t)) = sns (zSl (zg v)) ++ sns (vSl t) from sns_append _ _, sns_append, enc_append, List.length_cons, show i + (t.length + 1) = (i + 1) + t.length by omega]
    refine ih (fun x hx => hv x (by simp [hx])) o ?_
    rw [Nat.pow_succ, Nat.pow_succ]
    generalize 2 ^ i = A at *
    generalize 16974593 ^ i = B at *
    have e1 : A * 16777216 * 2 = A * 2 * 16777216 := Nat.mul_right_comm _ _ _
    have e2 : B * 257 * 257 * 257 = B * 16974593 := by rw [Nat.mul_assoc B, Nat.mul_assoc B]
    rw [e1, e2] at p
    exact p
theorem vB_k {vs : List Int} (hv : allV vs) : (enc en0 (sns (vSl vs))).k ≤ 3 * vs.length := by
  obtain ⟨⟨_, o2, _⟩, h⟩ := pot_all hv (e := en0) (i := 0) en0_ok (by decide)
  rw [Nat.zero_add] at h
  generalize (enc en0 (sns (vSl vs))).k = k at *
  generalize (enc en0 (sns (vSl vs))).r = r at *
  generalize vs.length = n at *
  have h1 : 256 ^ k * 2 ^ n ≤ 16974593 ^ n := by
    have : 256 ^ k * 2 ^ n * 16777216 ≤ 16974593 ^ n * 16777216 := by
      rw [Nat.mul_assoc]
      exact Nat.le_trans h (Nat.mul_le_mul_left _ o2)
    exact Nat.le_of_mul_le_mul_right this (by decide)
  have h2 : 16974593 ^ n ≤ (2 ^ 25) ^ n := Nat.pow_le_pow_left (by decide) n
  have a : (256 : Nat) ^ k = 2 ^ (8 * k) := by rw [Nat.pow_mul]
  rw [a, ← Nat.pow_add] at h1
  rw [← Nat.pow_mul] at h2
  have := (Nat.pow_le_pow_iff_right (a := 2) (by decide)).1 (Nat.le_trans h1 h2)
  omega
/-- Values are told by few bytes. -/
theorem vB_len {vs : List Int} (hv : allV vs) : (vB vs).length ≤ 3 * vs.length + 3 := by
  have h1 := trim_len (digs ((enc en0 (sns (vSl vs))).k + 3) (enc en0 (sns (vSl vs))).n)
  rw [digs_len] at h1
  have := vB_k hv
  unfold vB encL
  omega
end Go.Proofs.YthecfboplfmdmaaDoor.ValM
