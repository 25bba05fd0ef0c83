/- The library's heap over the program's rests: sifting down, a heap is made, the best is taken. Condition: at most 1000 rests. -/
import Derived.Test.YtbbejjlgfekipaaShaU
namespace Go.Proofs.Ytbbejjlgfekipaa.ShaJ
open Go.ChangeShapes Go.WideShapes Go.ChangeAt Go.RowKit Go.Proofs.Ytbbejjlgfekipaa.Num Go.Proofs.Ytbbejjlgfekipaa.Sli Go.Proofs.Ytbbejjlgfekipaa.App Go.Proofs.Ytbbejjlgfekipaa.Blk Go.Proofs.Ytbbejjlgfekipaa.HalM Go.Proofs.Ytbbejjlgfekipaa.ShaG Go.Proofs.Ytbbejjlgfekipaa.ShaH Go.Proofs.Ytbbejjlgfekipaa.ShaU Go.Proofs.Ytbbejjlgfekipaa.IntL Go.Proofs.Ytbbejjlgfekipaa.IntA Go.Proofs.Ytbbejjlgfekipaa.BkI

def isB (e : Ending) : Prop := ∃ r, e = .returned (.bool r)
theorem dwn_stop {R : List B2} {i n : Nat} (f : Nat) (h : n ≤ 2 * i + 1) : dwn f R i n = R := by
  cases f with
  | zero => rfl
  | succ f => unfold dwn; rw [if_pos h]
theorem dwn_no {R : List B2} {i n f : Nat} (h : 2 * i + 1 < n) (hf : n ≤ i + f) (hc : bfr (at2 R (ch R i n)) (at2 R i) = false) : dwn f R i n = R := by
  cases f with
  | zero => omega
  | succ f => unfold dwn; rw [if_neg (by omega), hc]; rfl
theorem dwn_yes {R : List B2} {i n f : Nat} (h : 2 * i + 1 < n) (hf : n ≤ i + f) (hc : bfr (at2 R (ch R i n)) (at2 R i) = true) : dwn f R i n = dwn (f - 1) (sw R i (ch R i n)) (ch R i n) n := by
  cases f with
  | zero => omega
  | succ f =>
    show dwn (f + 1) R i n = dwn f (sw R i (ch R i n)) (ch R i n) n
    rw [dwn, if_neg (by omega), if_pos hc]
set_option maxHeartbeats 8000000 in
theorem down_calls {base b g cap : Nat} {R : List B2} {W : World} (h : HP base b g cap R W) (i0 n : Nat) (hn : n ≤ R.length) (hl : R.length ≤ 1000) (hi0 : i0 ≤ 1000) :
    Calls Try.prog 54 #[IB b, .int .i64 (i0 : Int), .int .i64 (n : Int)] W fun e w' => isB e ∧ HP base b g cap (dwn n R i0 n) w' ∧ Below base W w' := by
  have H0 := hid h
  have HW := hid (Below.refl base W)
  generalize hD : dwn n R i0 n = D at *
  have hnI : (n : Int) ≤ 1000 := by omega
  clear h
  go_enter Try.func54, Try.ntmps54
  go_wp2
  go_loopw [7] (fun iv wr => ∃ (i f : Nat) (R' : List B2), iv = .int .i64 (i : Int) ∧ Hid (R'.length = R.length) ∧ (n ≤ i + f ∧ i ≤ 1000) ∧ Hid (HP base b g cap R' wr) ∧ Hid (dwn f R' i n = D) ∧ Hid (Below base W wr)) (fun iv _ => n - (intOf iv).toNat)
  case atStart => exact ⟨i0, n, R, rfl, rfl, by omega, H0, hD, HW⟩
  case round =>
    obtain ⟨i, f, R', rfl, hl', ⟨hf, hi1⟩, HPr, HDf, HBr⟩ := hrel
    have hnR : n ≤ R'.length := by have := hl'.out; omega
    clear H0 HW hD
    obtain ⟨j1, hj1⟩ : ∃ j1 : Nat, 2 * i + 1 = j1 := ⟨_, rfl⟩
    have hJ1 : 2 * (i : Int) + 1 = (j1 : Int) := by omega
    have hng : ¬ (j1 : Int) < 0 := by omega
    by_cases hlt : j1 < n
    · have hltI : ¬ (n : Int) ≤ (j1 : Int) := by omega
      obtain ⟨j2, hj2⟩ : ∃ j2 : Nat, 2 * i + 2 = j2 := ⟨_, rfl⟩
      have hJ2 : (j1 : Int) + 1 = (j2 : Int) := by omega
      by_cases h2 : j2 < n
      · have h2I : (j2 : Int) < (n : Int) := by omega
        have hmA := met_less HPr.out
        have HLa := hid (less_calls HPr.out j2 j1 (by omega) (by omega))
        cases hc2 : bfr (at2 R' j2) (at2 R' j1)
        · have hch : ch R' i n = j1 := by unfold ch; rw [hj2, hj1, if_neg (by rw [hc2]; simp)]
          rw [hc2] at HLa
          clear hc2
          go_wp2_with fail
          refine HLa.out.mono ?_
          rintro e w2 ⟨rfl, hb2⟩
          have HP2 := hid (HPr.out.later hb2)
          have HB2 := hid (HBr.out.trans (hb2.mono (by have := HPr.out.x.lt; have := HPr.out.hb; omega)))
          clear hb2 HLa hmA HPr HBr
          have hmB := met_less HP2.out
          have HLe := hid (less_calls HP2.out j1 i (by omega) (by omega))
          have hjs : j1 < n ∧ i < j1 := by omega
          cases hc : bfr (at2 R' j1) (at2 R' i)
          · rw [hc] at HLe
            have HD := hid (HDf.out.symm.trans (dwn_no (by omega) hf (by rw [hch]; exact hc)))
            clear hc hch
            go_wp2_with fail
            refine HLe.out.mono ?_
            rintro e w3 ⟨rfl, hb3⟩
            have HP3 := hid (HP2.out.later hb3)
            have HB3 := hid (HB2.out.trans (hb3.mono (by have := HP2.out.x.lt; have := HP2.out.hb; omega)))
            clear hb3 HLe hmB
            go_wp2
            go_ret
            exact ⟨⟨_, rfl⟩, by rw [HD.out]; exact HP3.out, HB3.out⟩
          · rw [hc] at HLe
            have HD := hid (HDf.out.symm.trans (dwn_yes (by omega) hf (by rw [hch]; exact hc)))
            rw [hch] at HD
            clear hc hch
            go_wp2_with fail
            refine HLe.out.mono ?_
            rintro e w3 ⟨rfl, hb3⟩
            have HP3 := hid (HP2.out.later hb3)
            have HB3 := hid (HB2.out.trans (hb3.mono (by have := HP2.out.x.lt; have := HP2.out.hb; omega)))
            have hmS := met_swap HP3.out
            have HSw := hid (swap_calls HP3.out i j1 (by omega) (by omega))
            clear hb3 HLe hmB
            go_wp2_with fail
            refine HSw.out.mono ?_
            rintro e w4 ⟨rfl, hp4, hb4⟩
            have HP4 := hid hp4
            have HB4 := hid (HB3.out.trans hb4)
            clear hp4 hb4 HSw hmS
            go_wp2
            go_roundw
            case rel => exact ⟨j1, f - 1, _, rfl, by show _ = _; rw [sw_len]; exact hl'.out, by omega, HP4, HD.out.symm, HB4⟩
            case measure => simp [intOf]; omega
        · have hch : ch R' i n = j2 := by unfold ch; rw [hj2, hj1, if_pos ⟨h2, hc2⟩]
          rw [hc2] at HLa
          clear hc2
          go_wp2_with fail
          refine HLa.out.mono ?_
          rintro e w2 ⟨rfl, hb2⟩
          have HP2 := hid (HPr.out.later hb2)
          have HB2 := hid (HBr.out.trans (hb2.mono (by have := HPr.out.x.lt; have := HPr.out.hb; omega)))
          clear hb2 HLa hmA HPr HBr
          have hmB := met_less HP2.out
          have HLe := hid (less_calls HP2.out j2 i (by omega) (by omega))
          have hjs : j2 < n ∧ i < j2 := by omega
          cases hc : bfr (at2 R' j2) (at2 R' i)
          · rw [hc] at HLe
            have HD := hid (HDf.out.symm.trans (dwn_no (by omega) hf (by rw [hch]; exact hc)))
            clear hc hch
            go_wp2_with fail
            refine HLe.out.mono ?_
            rintro e w3 ⟨rfl, hb3⟩
            have HP3 := hid (HP2.out.later hb3)
            have HB3 := hid (HB2.out.trans (hb3.mono (by have := HP2.out.x.lt; have := HP2.out.hb; omega)))
            clear hb3 HLe hmB
            go_wp2
            go_ret
            exact ⟨⟨_, rfl⟩, by rw [HD.out]; exact HP3.out, HB3.out⟩
          · rw [hc] at HLe
            have HD := hid (HDf.out.symm.trans (dwn_yes (by omega) hf (by rw [hch]; exact hc)))
            rw [hch] at HD
            clear hc hch
            go_wp2_with fail
            refine HLe.out.mono ?_
            rintro e w3 ⟨rfl, hb3⟩
            have HP3 := hid (HP2.out.later hb3)
            have HB3 := hid (HB2.out.trans (hb3.mono (by have := HP2.out.x.lt; have := HP2.out.hb; omega)))
            have hmS := met_swap HP3.out
            have HSw := hid (swap_calls HP3.out i j2 (by omega) (by omega))
            clear hb3 HLe hmB
            go_wp2_with fail
            refine HSw.out.mono ?_
            rintro e w4 ⟨rfl, hp4, hb4⟩
            have HP4 := hid hp4
            have HB4 := hid (HB3.out.trans hb4)
            clear hp4 hb4 HSw hmS
            go_wp2
            go_roundw
            case rel => exact ⟨j2, f - 1, _, rfl, by show _ = _; rw [sw_len]; exact hl'.out, by omega, HP4, HD.out.symm, HB4⟩
            case measure => simp [intOf]; omega
      · have h2I : ¬ (j2 : Int) < (n : Int) := by omega
        have hch : ch R' i n = j1 := by unfold ch; rw [hj2, hj1, if_neg (by omega)]
        have hmB := met_less HPr.out
        have HLe := hid (less_calls HPr.out j1 i (by omega) (by omega))
        have hjs : j1 < n ∧ i < j1 := by omega
        cases hc : bfr (at2 R' j1) (at2 R' i)
        · rw [hc] at HLe
          have HD := hid (HDf.out.symm.trans (dwn_no (by omega) hf (by rw [hch]; exact hc)))
          clear hc hch
          go_wp2_with fail
          refine HLe.out.mono ?_
          rintro e w3 ⟨rfl, hb3⟩
          have HP3 := hid (HPr.out.later hb3)
          have HB3 := hid (HBr.out.trans (hb3.mono (by have := HPr.out.x.lt; have := HPr.out.hb; omega)))
          clear hb3 HLe hmB
          go_wp2
          go_ret
          exact ⟨⟨_, rfl⟩, by rw [HD.out]; exact HP3.out, HB3.out⟩
        · rw [hc] at HLe
          have HD := hid (HDf.out.symm.trans (dwn_yes (by omega) hf (by rw [hch]; exact hc)))
          rw [hch] at HD
          clear hc hch
          go_wp2_with fail
          refine HLe.out.mono ?_
          rintro e w3 ⟨rfl, hb3⟩
          have HP3 := hid (HPr.out.later hb3)
          have HB3 := hid (HBr.out.trans (hb3.mono (by have := HPr.out.x.lt; have := HPr.out.hb; omega)))
          have hmS := met_swap HP3.out
          have HSw := hid (swap_calls HP3.out i j1 (by omega) (by omega))
          clear hb3 HLe hmB
          go_wp2_with fail
          refine HSw.out.mono ?_
          rintro e w4 ⟨rfl, hp4, hb4⟩
          have HP4 := hid hp4
          have HB4 := hid (HB3.out.trans hb4)
          clear hp4 hb4 HSw hmS
          go_wp2
          go_roundw
          case rel => exact ⟨j1, f - 1, _, rfl, by show _ = _; rw [sw_len]; exact hl'.out, by omega, HP4, HD.out.symm, HB4⟩
          case measure => simp [intOf]; omega
    · have hltI : (n : Int) ≤ (j1 : Int) := by omega
      have HD := hid (HDf.out.symm.trans (dwn_stop f (by omega)))
      go_wp2
      go_ret
      exact ⟨⟨_, rfl⟩, by rw [HD.out]; exact HPr.out, HBr.out⟩
set_option maxHeartbeats 4000000 in
theorem init_calls {base b g cap : Nat} {R : List B2} {W : World} (h : HP base b g cap R W) (hl : R.length ≤ 1000) :
    Calls Try.prog 48 #[IB b] W fun e w' => e = .returned (.tuple #[]) ∧ HP base b g cap (hin R.length (R.length / 2) R) w' ∧ Below base W w' := by
  have H0 := hid h
  have HW := hid (Below.refl base W)
  have hmL := met_len h
  obtain ⟨n, hn⟩ : ∃ n, R.length = n := ⟨_, rfl⟩
  have HLn := hid (len_calls g cap n)
  rw [hn] at hmL hl ⊢
  have hq : ((n : Int)).tdiv 2 = ((n / 2 : Nat) : Int) := by rw [Int.tdiv_eq_ediv_of_nonneg (by omega)]; omega
  have hq2 : n / 2 ≤ n := Nat.div_le_self _ _
  generalize hD : hin n (n / 2) R = D at *
  generalize n / 2 = m0 at *
  have hnI : (n : Int) ≤ 1000 := by omega
  clear h
  go_enter Try.func48, Try.ntmps48
  go_wp2_with fail
  refine (HLn.out _).mono ?_
  rintro e w1 ⟨rfl, rfl⟩
  clear hmL
  go_wp2
  go_loopw [3] (fun iv wr => ∃ (m : Nat) (R' : List B2), iv = .int .i64 ((m : Int) - 1) ∧ Hid (R'.length = n) ∧ m ≤ n ∧ Hid (HP base b g cap R' wr) ∧ Hid (hin n m R' = D) ∧ Hid (Below base w1 wr)) (fun iv _ => (intOf iv + 1).toNat)
  case atStart => exact ⟨m0, R, rfl, hn, hq2, H0, hD, HW⟩
  case round =>
    obtain ⟨m, R', rfl, hl', hm, HPr, HDf, HBr⟩ := hrel
    clear H0 HW hD hq HLn
    cases m with
    | zero =>
      have HD := hid HDf.out
      go_wp2
      go_end0
      exact ⟨rfl, by rw [← HD.out]; exact HPr.out, HBr.out⟩
    | succ m =>
      have hmI : ((m + 1 : Nat) : Int) - 1 = (m : Int) := by omega
      have hm0 : (0 : Int) ≤ (m : Int) := by omega
      rw [hmI]
      clear hmI
      have HDo := hid (down_calls HPr.out m n (by have := hl'.out; omega) (by have := hl'.out; omega) (by omega))
      have hk := (dwn_kept n R' m n (by have := hl'.out; omega)).1
      have HL2 : Hid ((dwn n R' m n).length = n) := hk.trans hl'.out
      have HD2 : Hid (hin n m (dwn n R' m n) = D) := HDf.out
      clear hk HDf hl'
      generalize dwn n R' m n = R2 at *
      go_wp2_with fail
      refine HDo.out.mono ?_
      rintro e w2 ⟨⟨r, rfl⟩, hp2, hb2⟩
      have HP2 := hid hp2
      have HB2 := hid (HBr.out.trans hb2)
      clear hp2 hb2 HDo HPr HBr
      go_wp2
      go_roundw
      case rel => exact ⟨m, R2, rfl, HL2, by omega, HP2, HD2, HB2⟩
      case measure => simp [intOf]
set_option maxHeartbeats 4000000 in
theorem pop_calls {base b g cap : Nat} {R : List B2} {W : World} (h : HP base b g cap R W) (hp : hp R) (h0 : 0 < R.length) (hl : R.length ≤ 1000) :
    Calls Try.prog 49 #[IB b] W fun e w' => e = .returned (.iface 72 (.agg #[.int .i64 (at2 R 0).1, .int .i64 (at2 R 0).2])) ∧ HP base b g cap (popR R) w' ∧ Below base W w' := by
  obtain ⟨n, hn⟩ : ∃ n, R.length = n + 1 := ⟨R.length - 1, by omega⟩
  obtain ⟨_, _, q3, q4, _⟩ := pop_ok h0 hp
  have hmL := met_len h
  have hmS := met_swap h
  have HLn := hid (len_calls g cap (n + 1))
  have HSw : Hid (Calls Try.prog 76 #[.slice (some ⟨g, 0, none⟩) (n + 1) cap, .int .i64 0, .int .i64 (n : Int)] W fun e w' => e = .returned (.tuple #[]) ∧ HP base b g cap (sw R 0 n) w' ∧ Below base W w') := by
    have := swap_calls h 0 n (by omega) (by omega)
    rw [hn] at this
    exact this
  have HDo : Hid (∀ w1, HP base b g cap (sw R 0 n) w1 → Calls Try.prog 54 #[IB b, .int .i64 0, .int .i64 (n : Int)] w1 fun e w' => isB e ∧ HP base b g cap (popD R) w' ∧ Below base w1 w') := by
    intro w1 h1
    have := down_calls h1 0 n (by rw [sw_len]; omega) (by rw [sw_len]; omega) (by omega)
    unfold popD
    rw [hn]
    exact this
  have HPo : Hid (∀ w1, HP base b g cap (popD R) w1 → Calls Try.prog 74 #[.pointer (some ⟨b, 0, none⟩)] w1 fun e w' => e = .returned (.iface 72 (.agg #[.int .i64 (at2 R 0).1, .int .i64 (at2 R 0).2])) ∧ HP base b g cap (popR R) w' ∧ Below base w1 w') := by
    intro w1 h1
    have := popM_calls h1 n (by omega) (by omega)
    rw [hn] at q4
    rw [show n + 1 - 1 = n from rfl] at q4
    rw [q4] at this
    unfold popR
    rw [hn]
    exact this
  have hnI : (n : Int) ≤ 1000 := by omega
  have hnn : ((n + 1 : Nat) : Int) - 1 = (n : Int) := by omega
  rw [hn] at hmL hmS
  have hmP := fun w1 => met_pop b w1
  clear h hp q3 q4 h0 hl hn
  generalize at2 R 0 = x at *
  generalize popD R = D at *
  generalize popR R = R2 at *
  generalize sw R 0 n = R1 at *
  go_enter Try.func49, Try.ntmps49
  go_wp2_with fail
  refine (HLn.out _).mono ?_
  rintro e w1 ⟨rfl, rfl⟩
  clear hmL
  go_wp2_with fail
  refine HSw.out.mono ?_
  rintro e w2 ⟨rfl, hp2, hb2⟩
  have HB2 := hid hb2
  have HD2 := hid (HDo.out _ hp2)
  clear hp2 hb2 HSw hmS HDo
  go_wp2_with fail
  refine HD2.out.mono ?_
  rintro e w3 ⟨⟨r, rfl⟩, hp3, hb3⟩
  have HB3 := hid (HB2.out.trans hb3)
  have HP3 := hid (HPo.out _ hp3)
  clear hp3 hb3 HB2 HD2 HPo
  go_wp2_with fail
  refine HP3.out.mono ?_
  rintro e w4 ⟨rfl, hp4, hb4⟩
  have HB4 := hid (HB3.out.trans hb4)
  have HP4 := hid hp4
  clear hp4 hb4 HP3 HB3
  go_wp2
  go_ret
  exact ⟨rfl, HP4.out, HB4.out⟩
end Go.Proofs.Ytbbejjlgfekipaa.ShaJ
