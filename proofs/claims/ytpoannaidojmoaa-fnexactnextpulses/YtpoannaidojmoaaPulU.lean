/- The model's pulses of a number, their number, and the next ones. Conditions: right numbers for what is called; lists of at most 1048576 numbers for what is exported. -/
import Derived.Test.YtpoannaidojmoaaPulT
namespace Go.Proofs.Ytpoannaidojmoaa.PulU
open Go.ChangeShapes Go.WideShapes Go.ChangeAt Go.RowKit Go.Proofs.Ytpoannaidojmoaa.Num Go.Proofs.Ytpoannaidojmoaa.Div Go.Proofs.Ytpoannaidojmoaa.Sli Go.Proofs.Ytpoannaidojmoaa.App Go.Proofs.Ytpoannaidojmoaa.Blk Go.Proofs.Ytpoannaidojmoaa.IntL Go.Proofs.Ytpoannaidojmoaa.IntA Go.Proofs.Ytpoannaidojmoaa.Norm Go.Proofs.Ytpoannaidojmoaa.HalM Go.Proofs.Ytpoannaidojmoaa.PulM Go.Proofs.Ytpoannaidojmoaa.PulS Go.Proofs.Ytpoannaidojmoaa.PulT

set_option maxRecDepth 100000 in
set_option maxHeartbeats 4000000 in
theorem l11At_calls (d K i : Nat) (w : World) (hd : d ≤ 4) (hK : K ≤ 8) (hi : i < cnt d K) :
    Calls Try.prog 48 #[.int .i64 (d : Int), .int .i64 (K : Int), .int .i64 (i : Int)] w fun e w' => ∃ u, e = .returned u ∧ OwI w.heap.size w' u (atL d K i) ∧ Below w.heap.size w w' := by
  have HC := hid count_as
  have hib := (cnt_small d (by omega) K (by omega)).1
  have hdI : (d : Int) ≤ 4 := by omega
  have hKI : (K : Int) ≤ 8 := by omega
  have h1 : Hid (i < cnt (d - 0) K) := hi
  have h2 : i ≤ 100000 := by omega
  have H0 := hid (ow_new .i64 2 w.heap.size w (Nat.le_refl _))
  have HB0 := hid (bmore (Below.refl _ w) (.cells #[] 2))
  clear hib hi
  obtain ⟨goal, hg⟩ : ∃ x, atL d K i = x := ⟨_, rfl⟩
  rw [hg]
  have h0 : Hid ([] ++ atL (d - 0) K i = goal) := hg
  clear hg
  go_enter Try.func48, Try.ntmps48
  go_wp2_with fail
  go_loopw [2, 7, 8, 9] (fun ix o left jv wr => ∃ (j L I g cap n : Nat) (acc : List Int), j ≤ d ∧ L ≤ 8 ∧ I ≤ 100000 ∧ ix = .int .i64 (I : Int) ∧ o = .slice (some ⟨g, 0, none⟩) n cap ∧ left = .int .i64 (L : Int) ∧ jv = .int .i64 (j : Int) ∧ Hid (n = acc.length) ∧ Hid (acc.length = j) ∧ Hid (acc ++ atL (d - j) L I = goal) ∧ Hid (I < cnt (d - j) L) ∧ Hid (OwI w.heap.size wr (.slice (some ⟨g, 0, none⟩) n cap) acc) ∧ Hid (Below w.heap.size w wr)) (fun _ _ _ jv _ => d - (intOf jv).toNat)
  case atStart => exact ⟨0, K, i, _, _, _, [], Nat.zero_le _, hK, h2, rfl, rfl, rfl, rfl, rfl, rfl, h0.out, h1.out, H0.out, HB0.out⟩
  case round =>
    obtain ⟨j, L, I, g, cap, n, acc, hj, hL, hI, rfl, rfl, rfl, rfl, hn, HAcc, Hgoal, Hlt, hO, hB⟩ := hrel
    clear H0 HB0 h0 h1
    by_cases hlt : j < d
    · obtain ⟨D, hD⟩ : ∃ D, d - j = D + 1 := ⟨d - j - 1, by omega⟩
      have hD2 := hid hD
      have hD4 : D < 4 := by omega
      have Hin : Hid (SS D L (pk D L I).1 + (pk D L I).2 = I ∧ (pk D L I).1 ≤ 2 * L ∧ (pk D L I).2 < tm D L (pk D L I).1) := by
        have := Hlt.out
        rw [hD] at this
        exact pk_in hD4 (by omega) this
      have HDI : Hid ((d : Int) - 1 - (j : Int) = (D : Int)) := by show _ = _; omega
      have hjI : (j : Int) < (d : Int) := by omega
      have hLI : (L : Int) ≤ 8 := by omega
      have HP : Hid (pkF D L (2 * L - 0) 0 I = pk D L I) := rfl
      have hOB : Hid (OwI w.heap.size wr (.slice (some ⟨g, 0, none⟩) n cap) acc) := hO
      clear hD Hlt hO
      generalize wr = w0 at *
      go_wp2_with fail
      go_loopw [2, 10] (fun ix x wq => ∃ m I2 : Nat, m ≤ 2 * L ∧ I2 ≤ 100000 ∧ ix = .int .i64 (I2 : Int) ∧ x = .int .i64 ((m : Int) - L) ∧ Hid (pkF D L (2 * L - m) m I2 = pk D L I) ∧ Hid (OwI w.heap.size wq (.slice (some ⟨g, 0, none⟩) n cap) acc) ∧ Hid (Below w.heap.size w wq)) (fun _ x _ => (L - intOf x).toNat)
      case atStart => exact ⟨0, I, by omega, hI, rfl, by go_num, HP.out, hOB.out, hB.out⟩
      case round =>
        obtain ⟨m, I2, hm, hI2, rfl, rfl, Hpk, HOw, HBw⟩ := hrel
        clear hOB hB HP
        obtain ⟨A2, hA2n⟩ : ∃ A, ((m : Int) - L).natAbs = A := ⟨_, rfl⟩
        have hA2v : absV ((m : Int) - L) = (A2 : Int) := by unfold absV; split <;> omega
        have hA2b : A2 ≤ L := by omega
        by_cases hm2 : m < 2 * L
        · have hA : (if m ≤ L then L - m else m - L) = A2 := by split <;> omega
          have htm : tm D L m = cnt D (L - A2) := by unfold tm; rw [hA]
          have HAb : Hid (∀ W (y : Int), y = (m : Int) - L → Calls Try.prog 55 #[.int .i64 y] W fun e w' => e = .returned (.int .i64 (A2 : Int)) ∧ w' = W) := fun W y hy => by
            subst hy
            refine (l1Abs_calls _ W (by omega) (by omega)).mono ?_
            rintro e w' ⟨rfl, rfl⟩
            exact ⟨by rw [hA2v], rfl⟩
          have HCn := hid (fun W => HC.out D (L - A2) (by omega) (by omega) W)
          have hcs := (cnt_small D (by omega) (L - A2) (by omega)).1
          have HLA : Hid (((L - A2 : Nat) : Int) = (L : Int) - (A2 : Int)) := by show _ = _; omega
          have hAI : (A2 : Int) ≤ (L : Int) := by omega
          have hcond : (m : Int) - L < (L : Int) := by omega
          obtain ⟨f, hf⟩ : ∃ f, 2 * L - m = f + 1 := ⟨2 * L - m - 1, by omega⟩
          have hpk := Hpk.out
          rw [hf] at hpk
          have hun : pkF D L (f + 1) m I2 = if tm D L m ≤ I2 then pkF D L f (m + 1) (I2 - tm D L m) else (m, I2) := rfl
          rw [hun, htm] at hpk
          by_cases ht : cnt D (L - A2) ≤ I2
          · rw [if_pos ht] at hpk
            have HPn : Hid (pkF D L (2 * L - (m + 1)) (m + 1) (I2 - cnt D (L - A2)) = pk D L I) := by
              show _ = _
              rw [show 2 * L - (m + 1) = f by omega]; exact hpk
            have HSub : Hid (((I2 - cnt D (L - A2) : Nat) : Int) = (I2 : Int) - (cnt D (L - A2) : Int)) := by show _ = _; omega
            have htI : (cnt D (L - A2) : Int) ≤ (I2 : Int) := by omega
            have hc0 : 0 ≤ (cnt D (L - A2) : Int) := by omega
            clear hA htm hcs hpk hun hf HC Hgoal Hin Hpk hA2v hA2n
            have HI3 : Hid (I2 - cnt D (L - A2) ≤ 100000) := by show _ ≤ _; omega
            go_wp2_with fail
            refine (HAb.out _ _ (by omega)).mono ?_
            rintro e w5 ⟨rfl, rfl⟩
            go_wp2_with fail
            refine (HCn.out _ _ _ (by rw [← HDI.out]) (by rw [HLA.out])).mono ?_
            rintro e w6 ⟨rfl, hb6⟩
            have HB6 := hid (bthen HBw.out hb6)
            have HO6 := hid (HOw.out.later hb6)
            clear hb6 HBw HOw
            go_wp2_with fail
            refine (HAb.out _ _ (by omega)).mono ?_
            rintro e w7 ⟨rfl, rfl⟩
            go_wp2_with fail
            refine (HCn.out _ _ _ (by rw [← HDI.out]) (by rw [HLA.out])).mono ?_
            rintro e w8 ⟨rfl, hb8⟩
            have HB8 := hid (bthen HB6.out hb8)
            have HO8 := hid (HO6.out.later hb8)
            clear hb8 HB6 HO6 HCn HAb
            go_wp2
            go_roundw
            case rel => exact ⟨m + 1, I2 - cnt D (L - A2), by omega, HI3.out, by rw [HSub.out], by go_num, HPn.out, HO8.out, HB8.out⟩
            case measure => simp [intOf]; omega
          · rw [if_neg ht] at hpk
            have hpe : pk D L I = (m, I2) := hpk.symm
            have htI : ¬ (cnt D (L - A2) : Int) ≤ (I2 : Int) := by omega
            clear hA htm hcs hpk hun hf Hpk
            have HNew : Hid ((acc ++ [(m : Int) - L]) ++ atL D (L - A2) I2 = goal) := by
              show _ = _
              have := Hgoal.out
              rw [hD2.out] at this
              rw [← this, List.append_assoc]
              congr 1
              show _ = (((pk D L I).1 : Int) - L) :: atL D (L - (((pk D L I).1 : Int) - L).natAbs) (pk D L I).2
              rw [hpe]
              show _ = ((m : Int) - L) :: atL D (L - ((m : Int) - L).natAbs) I2
              rw [hA2n]; rfl
            have HLt : Hid (I2 < cnt D (L - A2)) := by
              show _ < _
              have := Hin.out.2.2
              rw [hpe] at this
              have e : tm D L m = cnt D (L - A2) := by
                have := tm_at (d := D) (L := L) (x := (m : Int) - L) (by omega) (by omega)
                rw [show ((m : Int) - L + L).toNat = m by omega, hA2n] at this
                exact this
              rw [e] at this
              exact this
            have HLA2 : Hid (((L - A2 : Nat) : Int) = (L : Int) - (A2 : Int)) := by show _ = _; omega
            have HL8 : Hid (L - A2 ≤ 8) := by show _ ≤ _; omega
            have HIb : Hid (I2 ≤ 100000) := by
              show _ ≤ _
              have := HLt.out
              have := (cnt_small D (by omega) (L - A2) (by omega)).1
              omega
            have HA2 : Hid (∀ W (y : Int), y = (m : Int) - L → Calls Try.prog 55 #[.int .i64 y] W fun e w' => e = .returned (.int .i64 (A2 : Int)) ∧ w' = W) := fun W y hy => by
              subst hy
              refine (l1Abs_calls _ W (by omega) (by omega)).mono ?_
              rintro e w' ⟨rfl, rfl⟩
              exact ⟨by rw [hA2v], rfl⟩
            have hA2L : (A2 : Int) ≤ (L : Int) := by omega
            have HD3 : Hid (d - (j + 1) = D) := by show _ = _; have := hD2.out; omega
            clear hA2v hA2n hpe Hgoal Hin HC
            go_wp2_with fail
            refine (HAb.out _ _ (by omega)).mono ?_
            rintro e w3 ⟨rfl, rfl⟩
            go_wp2_with fail
            refine (HCn.out _ _ _ (by rw [← HDI.out]) (by rw [HLA.out])).mono ?_
            rintro e w4 ⟨rfl, hb4⟩
            have HBw2 := hid (bthen HBw.out hb4)
            have HOw2 := hid (HOw.out.later hb4)
            clear hb4 HBw HOw HCn HAb
            have HBw := HBw2
            have HOw := HOw2
            clear HBw2 HOw2
            have HO1 := hid (HOw.out.alloc (.cells #[.int .i64 ((m : Int) - L)] 2))
            have HBx := hid (bmore HBw.out (.cells #[.int .i64 ((m : Int) - L)] 2))
            have hsz := HBw.out.size
            clear HOw HBw
            go_wp2_with (at_builtin; refine wpList_append_ints _ rfl _ _ rfl w.heap.size _ acc rfl HO1.out _ [(m : Int) - L] rfl (sl_lit _ _ _ _ _ _ rfl rfl) (by simp) ?c1 ?c2 ?_)
            case c1 => have := HAcc.out; (try simp only [List.length_singleton]); omega
            case c2 => (try simp); omega
            intro g5 cap5 n5 w5 hn5 ho5 hg5 _
            have HN5 : Hid (n5 = (acc ++ [(m : Int) - L]).length) := by show _ = _; have := HAcc.out; simp only [List.length_append, List.length_singleton] at hn5 ⊢; omega
            have HB5 := hid (HBx.out.trans (below_of_grown hg5 (by simp; omega) (fun q e => (HO1.out.block q e).1)))
            have HO5 := hid ho5
            clear hn5 ho5 hg5 HO1 HBx
            go_wp2_with fail
            refine (HA2.out _ _ (by omega)).mono ?_
            rintro e w6 ⟨rfl, rfl⟩
            go_wp2
            go_roundw
            case rel => exact ⟨j + 1, L - A2, I2, g5, cap5, n5, acc ++ [(m : Int) - L], by omega, HL8.out, HIb.out, rfl, rfl, by rw [HLA2.out], by go_num, HN5.out, by show _ = _; rw [List.length_append, HAcc.out]; rfl, by rw [HD3.out]; exact HNew.out, by rw [HD3.out]; exact HLt.out, HO5.out, HB5.out⟩
            case measure => simp [intOf]; omega
        · have hme : m = 2 * L := by omega
          have hpe : pk D L I = (m, I2) := by
            have := Hpk.out
            rw [show 2 * L - m = 0 by omega] at this
            exact this.symm
          have hcond : ¬ (m : Int) - L < (L : Int) := by omega
          clear Hpk hme
          have HNew : Hid ((acc ++ [(m : Int) - L]) ++ atL D (L - A2) I2 = goal) := by
            show _ = _
            have := Hgoal.out
            rw [hD2.out] at this
            rw [← this, List.append_assoc]
            congr 1
            show _ = (((pk D L I).1 : Int) - L) :: atL D (L - (((pk D L I).1 : Int) - L).natAbs) (pk D L I).2
            rw [hpe]
            show _ = ((m : Int) - L) :: atL D (L - ((m : Int) - L).natAbs) I2
            rw [hA2n]; rfl
          have HLt : Hid (I2 < cnt D (L - A2)) := by
            show _ < _
            have := Hin.out.2.2
            rw [hpe] at this
            have e : tm D L m = cnt D (L - A2) := by
              have := tm_at (d := D) (L := L) (x := (m : Int) - L) (by omega) (by omega)
              rw [show ((m : Int) - L + L).toNat = m by omega, hA2n] at this
              exact this
            rw [e] at this
            exact this
          have HLA2 : Hid (((L - A2 : Nat) : Int) = (L : Int) - (A2 : Int)) := by show _ = _; omega
          have HL8 : Hid (L - A2 ≤ 8) := by show _ ≤ _; omega
          have HIb : Hid (I2 ≤ 100000) := by
            show _ ≤ _
            have := HLt.out
            have := (cnt_small D (by omega) (L - A2) (by omega)).1
            omega
          have HA2 : Hid (∀ W (y : Int), y = (m : Int) - L → Calls Try.prog 55 #[.int .i64 y] W fun e w' => e = .returned (.int .i64 (A2 : Int)) ∧ w' = W) := fun W y hy => by
            subst hy
            refine (l1Abs_calls _ W (by omega) (by omega)).mono ?_
            rintro e w' ⟨rfl, rfl⟩
            exact ⟨by rw [hA2v], rfl⟩
          have hA2L : (A2 : Int) ≤ (L : Int) := by omega
          have HD3 : Hid (d - (j + 1) = D) := by show _ = _; have := hD2.out; omega
          clear hA2v hA2n hpe Hgoal Hin HC

          have HO1 := hid (HOw.out.alloc (.cells #[.int .i64 ((m : Int) - L)] 2))
          have HBx := hid (bmore HBw.out (.cells #[.int .i64 ((m : Int) - L)] 2))
          have hsz := HBw.out.size
          clear HOw HBw
          go_wp2_with (at_builtin; refine wpList_append_ints _ rfl _ _ rfl w.heap.size _ acc rfl HO1.out _ [(m : Int) - L] rfl (sl_lit _ _ _ _ _ _ rfl rfl) (by simp) ?c1 ?c2 ?_)
          case c1 => have := HAcc.out; (try simp only [List.length_singleton]); omega
          case c2 => (try simp); omega
          intro g5 cap5 n5 w5 hn5 ho5 hg5 _
          have HN5 : Hid (n5 = (acc ++ [(m : Int) - L]).length) := by show _ = _; have := HAcc.out; simp only [List.length_append, List.length_singleton] at hn5 ⊢; omega
          have HB5 := hid (HBx.out.trans (below_of_grown hg5 (by simp; omega) (fun q e => (HO1.out.block q e).1)))
          have HO5 := hid ho5
          clear hn5 ho5 hg5 HO1 HBx
          go_wp2_with fail
          refine (HA2.out _ _ (by omega)).mono ?_
          rintro e w6 ⟨rfl, rfl⟩
          go_wp2
          go_roundw
          case rel => exact ⟨j + 1, L - A2, I2, g5, cap5, n5, acc ++ [(m : Int) - L], by omega, HL8.out, HIb.out, rfl, rfl, by rw [HLA2.out], by go_num, HN5.out, by show _ = _; rw [List.length_append, HAcc.out]; rfl, by rw [HD3.out]; exact HNew.out, by rw [HD3.out]; exact HLt.out, HO5.out, HB5.out⟩
          case measure => simp [intOf]; omega
    · obtain rfl : j = d := by omega
      have HR : Hid (acc = goal) := by
        show _ = _
        have := Hgoal.out
        rw [Nat.sub_self] at this
        rw [← this]; exact (List.append_nil _).symm
      have HOz := hid hO.out
      have HBz := hid hB.out
      clear hO hB Hgoal Hlt HC
      go_wp2
      go_ret
      exact ⟨_, rfl, by rw [← HR.out]; exact HOz.out, HBz.out⟩
end Go.Proofs.Ytpoannaidojmoaa.PulU
