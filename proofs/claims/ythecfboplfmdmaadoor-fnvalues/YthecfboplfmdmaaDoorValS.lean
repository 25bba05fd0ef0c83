/- Values in the model: ZigOf, UnzigOf, ClassSlot, SlotsOf. -/
import Derived.Test.YthecfboplfmdmaaDoorValK
namespace Go.Proofs.YthecfboplfmdmaaDoor.ValS
open Go.ChangeShapes Go.WideShapes Go.ChangeAt Go.RowKit Go.Proofs.YthecfboplfmdmaaDoor.Num Go.Proofs.YthecfboplfmdmaaDoor.Sli Go.Proofs.YthecfboplfmdmaaDoor.App Go.Proofs.YthecfboplfmdmaaDoor.Div Go.Proofs.YthecfboplfmdmaaDoor.Dec Go.Proofs.YthecfboplfmdmaaDoor.Blk Go.Proofs.YthecfboplfmdmaaDoor.RangeM Go.Proofs.YthecfboplfmdmaaDoor.SlS Go.Proofs.YthecfboplfmdmaaDoor.ExL Go.Proofs.YthecfboplfmdmaaDoor.SlA Go.Proofs.YthecfboplfmdmaaDoor.ValZ Go.Proofs.YthecfboplfmdmaaDoor.ValI Go.Proofs.YthecfboplfmdmaaDoor.ValJ Go.Proofs.YthecfboplfmdmaaDoor.ValK

theorem l4Zig_calls (v : Int) (w : World) (h : inB (-65535) 65535 v = true) : Calls Tryd.prog 70 #[.int .i64 v] w fun e w' => e = .returned (.int .i64 (zg v : Int)) ∧ w' = w := by
  have b1 := of_inB h
  have hO : zO v = (zg v : Int) := if_pos h
  by_cases hv : v < 0
  · have H : Hid (-2 * v - 1 = (zg v : Int)) := (z_neg h hv).2.trans hO
    clear h hO
    go_enter Tryd.func70, Tryd.ntmps70
    go_wp2
    go_ret
    exact ⟨ret_int H.out, rfl⟩
  · have H : Hid (2 * v = (zg v : Int)) := (z_pos h hv).2.trans hO
    clear h hO
    go_enter Tryd.func70, Tryd.ntmps70
    go_wp2
    go_ret
    exact ⟨ret_int H.out, rfl⟩
theorem l4Unzig_calls (z : Nat) (w : World) (h : z ≤ 131071) : Calls Tryd.prog 88 #[.int .i64 (z : Int)] w fun e w' => e = .returned (.int .i64 (uz z)) ∧ w' = w := by
  have hz : 0 ≤ (z : Int) ∧ (z : Int) ≤ 131071 := by omega
  by_cases hm : z % 2 = 1
  · have H : Hid (-(((z : Int) + 1) / 2) = uz z) := by show _ = _; unfold uz; rw [if_pos hm]; omega
    have hd : ((z : Int) + 1).tdiv 2 = ((z : Int) + 1) / 2 := Int.tdiv_eq_ediv_of_nonneg (by omega)
    have hmm : (z : Int).tmod 2 = 1 := by rw [Int.tmod_eq_emod_of_nonneg (by omega)]; omega
    have hm2 : (z : Int) % 2 = 1 := by omega
    have hq : 0 ≤ ((z : Int) + 1) / 2 ∧ ((z : Int) + 1) / 2 ≤ 65536 := by omega
    clear h hm
    generalize (z : Int) = x at *
    obtain ⟨x0, x1⟩ := hz
    go_enter Tryd.func88, Tryd.ntmps88
    go_wp2
    go_ret
    exact ⟨ret_int H.out, rfl⟩
  · have H : Hid ((z : Int) / 2 = uz z) := by show _ = _; unfold uz; rw [if_neg hm]; omega
    have hd : (z : Int).tdiv 2 = (z : Int) / 2 := Int.tdiv_eq_ediv_of_nonneg (by omega)
    have hmm : (z : Int).tmod 2 = 0 := by rw [Int.tmod_eq_emod_of_nonneg (by omega)]; omega
    have hm2 : (z : Int) % 2 = 0 := by omega
    have hq : 0 ≤ (z : Int) / 2 ∧ (z : Int) / 2 ≤ 65536 := by omega
    clear h hm
    generalize (z : Int) = x at *
    obtain ⟨x0, x1⟩ := hz
    go_enter Tryd.func88, Tryd.ntmps88
    go_wp2
    go_ret
    exact ⟨ret_int H.out, rfl⟩
theorem l4Share_calls (c : Nat) (w : World) : Calls Tryd.prog 86 #[.int .i64 (c : Int)] w fun e w' => e = .returned (.int .i64 (shr c : Int)) ∧ w' = w := by
  by_cases h6 : c < 6
  · have hx : c = 0 ∨ c = 1 ∨ c = 2 ∨ c = 3 ∨ c = 4 ∨ c = 5 := by omega
    rcases hx with rfl | rfl | rfl | rfl | rfl | rfl
    all_goals
      go_enter Tryd.func86, Tryd.ntmps86
      go_wp2
      go_ret
      exact ⟨rfl, rfl⟩
  · have H : Hid (shr c = 2) := by
      obtain ⟨d, rfl⟩ : ∃ d, c = d + 6 := ⟨c - 6, by omega⟩
      rfl
    have n0 : ((c : Int) == 0) = false := beq_eq_false_iff_ne.2 (by omega)
    have n1 : ((c : Int) == 1) = false := beq_eq_false_iff_ne.2 (by omega)
    have n2 : ((c : Int) == 2) = false := beq_eq_false_iff_ne.2 (by omega)
    have n3 : ((c : Int) == 3) = false := beq_eq_false_iff_ne.2 (by omega)
    have n4 : ((c : Int) == 4) = false := beq_eq_false_iff_ne.2 (by omega)
    have n5 : ((c : Int) == 5) = false := beq_eq_false_iff_ne.2 (by omega)
    generalize (c : Int) = x at *
    go_enter Tryd.func86, Tryd.ntmps86
    go_wp2
    go_ret
    exact ⟨by rw [H.out]; rfl, rfl⟩
set_option maxHeartbeats 1000000 in
theorem l4Class_calls (c : Nat) (w : World) (hc : c < 18) :
    Calls Tryd.prog 72 #[.int .i64 (c : Int)] w fun e w' => e = .returned (.agg #[.int .i64 (lwc c : Int), .int .i64 (shr c : Int), .int .i64 256]) ∧ Below w.heap.size w w' := by
  have HS := hid l4Share_calls
  go_enter Tryd.func72, Tryd.ntmps72
  go_wp2_with fail
  go_loop [3, 4] (fun l i => ∃ k : Nat, l = .int .i64 (lwc k : Int) ∧ i = .int .i64 (k : Int) ∧ k ≤ c) (fun _ i => c - (intOf i).toNat)
  case atStart => exact ⟨0, rfl, rfl, Nat.zero_le _⟩
  case round =>
    obtain ⟨k, rfl, rfl, hk⟩ := hrel
    by_cases hlt : k < c
    · have hle := lwc_le k
      have hse := shr_le k
      have hz := hid (HS.out k)
      have Hn : Hid (lwc (k + 1) = lwc k + shr k) := rfl
      generalize lwc k = lk at *
      generalize shr k = sk at *
      go_wp2_with fail
      refine (hz.out _).mono ?_
      rintro e w1 ⟨rfl, rfl⟩
      go_wp2
      go_round
      case rel => exact ⟨k + 1, (by rw [Hn.out]; go_num), by go_num, by omega⟩
      case measure => simp [intOf]; omega
    · obtain rfl : k = c := by omega
      generalize hlk : lwc k = lk at *
      have Hlk := hid hlk
      clear hlk
      have hz := hid (HS.out k)
      clear HS
      generalize hsk : shr k = sk at *
      have Hsk := hid hsk
      clear hsk
      go_wp2_with fail
      refine (hz.out _).mono ?_
      rintro e w1 ⟨rfl, rfl⟩
      go_wp2
      exact bodyPost_ret (v := .agg #[.int .i64 (lk : Int), .int .i64 (sk : Int), .int .i64 256]) (by simp [results, Tryd.results72, go_sem]) rfl ⟨by rw [Hlk.out, Hsk.out], bmore (Below.refl _ _) _⟩
/-- Two to the power of k. -/
def tw (k : Nat) : Nat := 2 ^ k
theorem tw_le {k m : Nat} (h : k ≤ m) : tw k ≤ 2 ^ m := Nat.pow_le_pow_right (by decide) h
theorem tw_pos (k : Nat) : 0 < tw k := Nat.two_pow_pos k
theorem tw_succ (k : Nat) : tw (k + 1) = tw k * 2 := Nat.pow_succ 2 k
theorem l4Two_calls (k : Nat) (w : World) (hk : k ≤ 20) : Calls Tryd.prog 74 #[.int .i64 (k : Int)] w fun e w' => e = .returned (.int .i64 (tw k : Int)) ∧ w' = w := by
  go_enter Tryd.func74, Tryd.ntmps74
  go_wp2_with fail
  go_loop [0, 3] (fun i n => ∃ j : Nat, i = .int .i64 ((k - j : Nat) : Int) ∧ n = .int .i64 (tw j : Int) ∧ j ≤ k) (fun i _ => (intOf i).toNat)
  case atStart => exact ⟨0, rfl, rfl, Nat.zero_le _⟩
  case round =>
    obtain ⟨j, rfl, rfl, hj⟩ := hrel
    have hb : (tw j : Int) ≤ 1048576 := by
      have := tw_le (k := j) (m := 20) (by omega)
      omega
    have h0 : 0 ≤ (tw j : Int) := by omega
    by_cases hlt : j < k
    · have hp : Hid ((tw (j + 1) : Int) = (tw j : Int) * 2) := by show _ = _; rw [tw_succ]; omega
      obtain ⟨m, hm⟩ : ∃ m, k - j = m + 1 := ⟨k - j - 1, by omega⟩
      have Hm : Hid (k - (j + 1) = m) := by show _ = _; omega
      have hm2 : (m : Int) ≤ 20 := by omega
      rw [hm]
      generalize hx : (tw j : Int) = x at *
      have Hx := hid hx
      clear hx hm
      go_wp2
      go_round
      case rel => exact ⟨j + 1, (by rw [Hm.out]), (by rw [hp.out]), by omega⟩
      case measure => simp [intOf]
    · obtain rfl : j = k := by omega
      rw [Nat.sub_self]
      generalize hx : (tw j : Int) = x at *
      have Hx := hid hx
      clear hx
      go_wp2
      go_ret
      exact ⟨by rw [Hx.out]; rfl, rfl⟩
theorem l4Pieces_calls (c : Nat) (w : World) (hc : c < 18) : Calls Tryd.prog 73 #[.int .i64 (c : Int)] w fun e w' => ∃ v, e = .returned v ∧ Ow .i64 2 w.heap.size w' v (pcI c) ∧ Below w.heap.size w w' := by
  by_cases h2 : c < 2
  · have e1 : Hid (pcI c = []) := by show _ = _; unfold pcI pcs; rw [if_pos h2]; rfl
    have h2' : (c : Int) < 2 := by omega
    go_enter Tryd.func73, Tryd.ntmps73
    go_wp2
    go_ret
    exact ⟨_, rfl, by rw [e1.out]; exact ⟨rfl, .inl ⟨rfl, rfl⟩⟩, Below.refl _ _⟩
  · have h2' : ¬ (c : Int) < 2 := by omega
    by_cases h8 : 8 < c - 1
    · have e1 : Hid (pcI c = [(c : Int) - 9, 8]) := by
        show _ = _; unfold pcI pcs; rw [if_neg h2, if_pos h8]
        show [((c - 9 : Nat) : Int), ((8 : Nat) : Int)] = _
        rw [show ((c - 9 : Nat) : Int) = (c : Int) - 9 by omega]; rfl
      have hq : 8 < (c : Int) - 1 ∧ (c : Int) - 1 < 18 := by omega
      obtain ⟨q1, q2⟩ := hq
      clear h8 hc
      generalize (c : Int) = x at *
      go_enter Tryd.func73, Tryd.ntmps73
      go_wp2
      go_ret
      exact ⟨_, rfl, by rw [e1.out]; exact ow_lit _ _ _ _ _, bmore (Below.refl _ _) _⟩
    · have e1 : Hid (pcI c = [(c : Int) - 1]) := by
        show _ = _; unfold pcI pcs; rw [if_neg h2, if_neg h8]
        show [((c - 1 : Nat) : Int)] = _
        rw [show ((c - 1 : Nat) : Int) = (c : Int) - 1 by omega]
      have hq : ¬ 8 < (c : Int) - 1 ∧ 0 < (c : Int) - 1 := by omega
      obtain ⟨q1, q2⟩ := hq
      clear h8 hc
      generalize (c : Int) = x at *
      go_enter Tryd.func73, Tryd.ntmps73
      go_wp2
      go_ret
      exact ⟨_, rfl, by rw [e1.out]; exact ow_lit _ _ _ _ _, bmore (Below.refl _ _) _⟩
theorem half_step (z j : Nat) : (j < cl z → 0 < z / 2 ^ j) ∧ (z / 2 ^ cl z = 0) ∧ (z / 2 ^ j / 2 = z / 2 ^ (j + 1)) := by
  refine ⟨fun hj => ?_, ?_, by rw [Nat.div_div_eq_div_mul, ← Nat.pow_succ]⟩
  · have h0 : z ≠ 0 := by intro e; subst e; rw [cl_zero] at hj; omega
    obtain ⟨k1, k2, k3⟩ := cl_bd h0
    have : 2 ^ j ≤ 2 ^ (cl z - 1) := Nat.pow_le_pow_right (by decide) (by omega)
    exact Nat.div_pos (by omega) (Nat.two_pow_pos _)
  · by_cases h0 : z = 0
    · subst h0; simp
    · exact Nat.div_eq_of_lt (cl_bd h0).2.2
theorem l2Length_calls (z : Nat) (w : World) (hz : z ≤ 131071) : Calls Tryd.prog 71 #[.int .i64 (z : Int)] w fun e w' => e = .returned (.int .i64 (cl z : Int)) ∧ w' = w := by
  have hL := cl_le hz
  have H := hid (fun j => half_step z j)
  have Hz := hid hz
  clear hz
  go_enter Tryd.func71, Tryd.ntmps71
  go_wp2_with fail
  go_loop [0, 3] (fun n k => ∃ j : Nat, j ≤ cl z ∧ n = .int .i64 ((z / 2 ^ j : Nat) : Int) ∧ k = .int .i64 j) (fun _ k => cl z - (intOf k).toNat)
  case atStart => exact ⟨0, Nat.zero_le _, by simp, rfl⟩
  case round =>
    obtain ⟨j, hj, rfl, rfl⟩ := hrel
    obtain ⟨h1, h2, h3⟩ := H.out j
    have hle : z / 2 ^ j ≤ z := Nat.div_le_self _ _
    by_cases hlt : j < cl z
    · have hp := h1 hlt
      have H3 := hid h3
      clear h1 h2 h3
      generalize hq : z / 2 ^ j = q at *
      have Hq := hid hq
      clear hq
      have hp' : (0 : Int) < (q : Int) ∧ (q : Int) ≤ 131071 := by have := Hz.out; omega
      obtain ⟨p1, p2⟩ := hp'
      have hd : (q : Int).tdiv 2 = (q : Int) / 2 := Int.tdiv_eq_ediv_of_nonneg (by omega)
      have hx : ((q / 2 : Nat) : Int) = (q : Int) / 2 := by omega
      have Hx := hid hx
      clear hle hp hx
      generalize (q : Int) = y at *
      go_wp2
      go_round
      case rel => exact ⟨j + 1, by omega, (by rw [← H3.out, Hx.out]), by go_num⟩
      case measure => simp [intOf]; omega
    · have he : j = cl z := by omega
      subst he
      have hz : ((z / 2 ^ cl z : Nat) : Int) = 0 := by rw [h2]; rfl
      clear h1 h3 h2 hle
      rw [hz] at *
      generalize hc : cl z = c at *
      have Hc := hid hc
      clear hc
      go_wp2
      go_ret
      exact ⟨by rw [Hc.out]; rfl, rfl⟩
/-- What l4Slots has made so far. -/
structure SL (w : World) (z c : Nat) (vp : Value) (j g cap n : Nat) (W : World) : Prop where
  p : Ow .i64 2 0 W vp (pcI c)
  o : OwS w.heap.size W (.slice (some ⟨g, 0, none⟩) n cap) (cSl c :: (rs z (pcs c)).take j)
  n : n = (cSl c :: (rs z (pcs c)).take j).length
  l : Below w.heap.size w W
theorem SL.later {w W W' : World} {z c : Nat} {vp : Value} {j g cap n : Nat} (h : SL w z c vp j g cap n W) (hb : Below W.heap.size W W') : SL w z c vp j g cap n W' :=
  ⟨h.p.later hb, OwS.later h.o hb, h.n, bthen h.l hb⟩
theorem div_mod_int (z a b : Nat) : (z : Int).tdiv (a : Int) = ((z / a : Nat) : Int) ∧ ((z / a : Nat) : Int).tmod (b : Int) = ((z / a % b : Nat) : Int) := by
  refine ⟨?_, ?_⟩
  · rw [Int.tdiv_eq_ediv_of_nonneg (Int.natCast_nonneg _)]; exact (Int.natCast_ediv _ _).symm
  · rw [Int.tmod_eq_emod_of_nonneg (Int.natCast_nonneg _)]; exact (Int.natCast_emod _ _).symm
set_option maxRecDepth 100000 in
set_option maxHeartbeats 2000000 in
theorem l4Slots_calls (v : Int) (w : World) (hv : inB (-65535) 65535 v = true) :
    Calls Tryd.prog 54 #[.int .i64 v] w fun e w' => ∃ g cap, e = .returned (.slice (some ⟨g, 0, none⟩) (zSl (zg v)).length cap) ∧ OwS w.heap.size w' (.slice (some ⟨g, 0, none⟩) (zSl (zg v)).length cap) (zSl (zg v)) ∧ Below w.heap.size w w' := by
  have HZg := hid (fun W => l4Zig_calls v W hv)
  have hz := zg_le (show isV v from of_inB hv)
  clear hv
  generalize zg v = z at *
  have hc : cl z < 18 := by have := cl_le (show z ≤ 131071 by omega); omega
  have HC := hid (fun W => l2Length_calls z W (by omega))
  have M3 : Hid (zSl z = cSl (cl z) :: rs z (pcs (cl z))) := by show _ = _; unfold zSl; rw [rSl_rs]
  have Hzz := hid hz
  clear hz
  generalize cl z = c at *
  have HP := hid (fun W => l4Pieces_calls c W hc)
  have HS := hid (fun W => l4Class_calls c W hc)
  go_enter Tryd.func54, Tryd.ntmps54
  go_wp2_with fail
  refine (HZg.out _).mono ?_
  rintro e w1 ⟨rfl, rfl⟩
  go_wp2_with fail
  refine (HC.out _).mono ?_
  rintro e w1 ⟨rfl, rfl⟩
  go_wp2_with fail
  refine (HS.out _).mono ?_
  rintro e w2 ⟨rfl, hb2⟩
  have HW2 := hid (bmore hb2 (.cells #[.int .i64 (lwc c : Int), .int .i64 (shr c : Int), .int .i64 256] 75))
  have HO2 := hid (owS_lit w1.heap.size w2 (lwc c : Int) (shr c : Int) 256 hb2.size)
  clear hb2 HC HS HZg
  go_wp2_with fail
  refine (HP.out _).mono ?_
  rintro e w3 ⟨vp, rfl, ho3, hb3⟩
  have HK : Hid (SL w1 z c vp 0 w2.heap.size 1 1 w3) := ⟨ho3.mono (Nat.zero_le _), OwS.later HO2.out hb3, rfl, bthen HW2.out hb3⟩
  obtain ⟨ap, cp, rfl, _⟩ := ho3.sl
  rw [pcI_len] at HK
  rw [pcI_len]
  generalize w2.heap.size = g2 at *
  have Hs0 : Hid (0 < (pcs c).length → ((c : Int) - 1 = (((pcs c).drop 0).sum : Nat))) := by
    intro h
    have h1 := (pcs_facts hc).2.1
    have h2 : 2 ≤ c := by
      rcases Nat.lt_or_ge c 2 with h3 | h3
      · unfold pcs at h; rw [if_pos h3] at h; simp at h
      · exact h3
    rw [List.drop_zero, h1]; omega
  have hc1 : -1 ≤ (c : Int) - 1 ∧ (c : Int) - 1 ≤ 17 := by omega
  have HF := hid (pcs_facts hc).2.2
  have hpl := (pcs_facts hc).1
  clear ho3 hb3 HP HW2 HO2
  go_wp2_with fail
  go_loopw [5, 7, 8] (fun o l i wr => ∃ (j g cap n : Nat) (x : Int), o = .slice (some ⟨g, 0, none⟩) n cap ∧ l = .int .i64 x ∧ i = .int .i64 (j : Int) ∧ j ≤ (pcs c).length ∧ Hid (j < (pcs c).length → x = (((pcs c).drop j).sum : Nat)) ∧ Hid (SL w1 z c (.slice ap (pcs c).length cp) j g cap n wr)) (fun _ _ i _ => (pcs c).length - (intOf i).toNat)
  case atStart => exact ⟨0, g2, 1, 1, _, rfl, rfl, rfl, Nat.zero_le _, Hs0.out, HK.out⟩
  case round =>
    clear HK Hs0
    obtain ⟨j, g, cap, n, x, rfl, rfl, rfl, hj, hx, hK⟩ := hrel
    by_cases hlt : j < (pcs c).length
    · have hxx := hx.out hlt
      obtain ⟨hk1, hk8, hl8⟩ := HF.out j hlt
      have hgI := pcI_get c j hlt
      have hlen := pcI_len c
      obtain ⟨a', cap', hv, hcs⟩ := hK.out.p.sl
      rw [hlen] at hv
      cases hv
      obtain ⟨b, off, rfl, hbl, hcell⟩ := hcs (by intro e; rw [e] at hlen; simp at hlen; omega)
      have hce := hcell j (by omega)
      rw [hgI] at hce
      clear hcs hcell hgI hlen hx
      have hsd := sum_drop (pcs c) j hlt
      have Hrt := hid (rs_take z (pcs c) j hlt)
      have Hrg := hid (rs_get z (pcs c) j hlt)
      have hjn : (j : Int) < ((pcs c).length : Int) := by omega
      generalize hk : (pcs c).getD j 0 = k at *
      generalize hL : ((pcs c).drop (j + 1)).sum = L at *
      have HL := hid hL
      have hL8 : L ≤ 8 := by omega
      have hkI : 1 ≤ (k : Int) ∧ (k : Int) ≤ 8 := by omega
      have hLI : x - (k : Int) = (L : Int) := by omega
      have hxb : 0 ≤ x ∧ x ≤ 16 := by omega
      clear hL hk hsd hxx hl8
      have HT1 := hid (fun W => l4Two_calls k W (by omega))
      have HT2 := hid (fun W => l4Two_calls L W (by omega))
      obtain ⟨d1, d2⟩ := div_mod_int z (tw L) (tw k)
      have hb1 : 1 ≤ (tw k : Int) ∧ (tw k : Int) ≤ 256 := by have := tw_pos k; have := tw_le hk8; omega
      have hb2 : 1 ≤ (tw L : Int) ∧ (tw L : Int) ≤ 256 := by have := tw_pos L; have := tw_le hL8; omega
      have hb3 : ((z / tw L : Nat) : Int) ≤ 131070 ∧ 0 ≤ ((z / tw L : Nat) : Int) := ⟨by have := Nat.div_le_self z (tw L); have := Hzz.out; generalize z / tw L = d at *; omega, Int.natCast_nonneg _⟩
      have hb4 : ((z / tw L % tw k : Nat) : Int) ≤ 256 ∧ 0 ≤ ((z / tw L % tw k : Nat) : Int) := ⟨by have := Nat.mod_lt (z / tw L) (tw_pos k); generalize z / tw L % tw k = d at *; omega, Int.natCast_nonneg _⟩
      have Hp : Hid ((rs z (pcs c)).getD j (0, 0, 0) = (((z / tw L % tw k : Nat) : Int), 1, (tw k : Int))) := by show _ = _; rw [Hrg.out]; rfl
      have hzb : 0 ≤ (z : Int) ∧ (z : Int) ≤ 131070 := by have := Hzz.out; omega
      clear Hrg hk1 hk8 hL8
      generalize ((z / tw L % tw k : Nat) : Int) = A at *
      generalize ((z / tw L : Nat) : Int) = D at *
      generalize (z : Int) = zI at *
      generalize (tw k : Int) = T at *
      generalize (tw L : Int) = U at *
      have t0 : ¬ T = 0 := by omega
      have u0 : ¬ U = 0 := by omega
      have k1 : wrap64 D = D := wrap_of (by omega) (by omega)
      have k2 : wrap64 A = A := wrap_of (by omega) (by omega)
      go_wp2_with fail
      refine (HT1.out _).mono ?_
      rintro e w4 ⟨rfl, rfl⟩
      try rw [hLI]
      go_wp2_with fail
      refine (HT2.out _).mono ?_
      rintro e w4 ⟨rfl, rfl⟩
      have HK4 := hid (hK.out.later (bmore (Below.refl _ _) (.cells #[.int .i64 A, .int .i64 1, .int .i64 T] 75)))
      have hln : (cSl c :: (rs z (pcs c)).take j).length ≤ 100 := by simp; omega
      have hsz4 : w1.heap.size ≤ w4.heap.size := hK.out.l.size
      clear hK HT1 HT2
      go_wp2_with (at_builtin; refine wpList_append_slots _ rfl _ _ rfl w1.heap.size (.slice (some ⟨g, 0, none⟩) n cap) (cSl c :: (rs z (pcs c)).take j) rfl HK4.out.o _ [(A, 1, T)] rfl (OwS.sls (owS_lit 0 w4 A 1 T (Nat.zero_le _))) (by simp) ?c1 ?c2 ?_)
      case c1 => simp only [List.length_singleton]; omega
      case c2 => simp; omega
      intro g5 cap5 n5 w5 hn5 ho5 hg5
      have HK5 : Hid (SL w1 z c (.slice (some ⟨b, off, none⟩) (pcs c).length cp) (j + 1) g5 cap5 n5 w5) := by
        have h := HK4.out
        have hgb := OwS.lt h.o g rfl
        obtain ⟨cur, hgo⟩ := owS_obj h.o
        have e5 : cSl c :: ((rs z (pcs c)).take j ++ [(A, 1, T)]) = cSl c :: (rs z (pcs c)).take (j + 1) := by rw [Hrt.out, Hp.out]
        have hn6 : n5 = (cSl c :: (rs z (pcs c)).take (j + 1)).length := by
          rw [List.length_cons, List.length_take, rs_len]
          rw [rs_len] at hn5
          omega
        rw [e5] at ho5
        exact ⟨ow_far h.p hgo (by decide) hg5, ho5, hn6, h.l.trans (below_of_grown hg5 (by simp; omega) (fun i e => by have : g = i := Option.some.inj e; omega))⟩
      clear hn5 ho5 hg5 HK4
      go_wp2
      go_roundw
      case rel => exact ⟨j + 1, g5, cap5, n5, (L : Int), rfl, (by congr 1 <;> omega), by go_num, by omega, (fun _ => by rw [HL.out]), HK5.out⟩
      case measure => simp [intOf]; omega
    · obtain rfl : j = (pcs c).length := by omega
      have M4 : Hid (cSl c :: (rs z (pcs c)).take (pcs c).length = zSl z) := by show _ = _; rw [List.take_of_length_le (by rw [rs_len]; omega), M3.out]
      have hn := hid hK.out.n
      have ho := hid hK.out.o
      have hl := hid hK.out.l
      rw [M4.out] at hn ho
      clear hK hx
      generalize (pcs c).length = m at *
      go_wp2
      go_ret
      have e := hn.out
      subst e
      exact ⟨g, cap, rfl, ho.out, hl.out⟩
end Go.Proofs.YthecfboplfmdmaaDoor.ValS
