/- The model's pulses: faults, their number, those of a number. Conditions: right pulses and numbers for what is called; lists of at most 1048576 numbers for what is exported. -/
import Derived.Test.YtpoannaidojmoaaPulS
namespace Go.Proofs.Ytpoannaidojmoaa.PulT
open Go.ChangeShapes Go.WideShapes Go.ChangeAt Go.RowKit Go.Proofs.Ytpoannaidojmoaa.Num Go.Proofs.Ytpoannaidojmoaa.Div Go.Proofs.Ytpoannaidojmoaa.Sli Go.Proofs.Ytpoannaidojmoaa.App Go.Proofs.Ytpoannaidojmoaa.Blk Go.Proofs.Ytpoannaidojmoaa.IntL Go.Proofs.Ytpoannaidojmoaa.IntA Go.Proofs.Ytpoannaidojmoaa.Norm Go.Proofs.Ytpoannaidojmoaa.HalM Go.Proofs.Ytpoannaidojmoaa.PulM Go.Proofs.Ytpoannaidojmoaa.PulS

theorem l11Ask_calls (d k : Int) (w : World) : Calls Try.prog 46 #[.int .i64 d, .int .i64 k] w fun e w' => e = .returned (.bool (cpO d k)) ∧ w' = w := by
  have HI := hid (l1In_calls d 1 4)
  have HS := hid (l1In_calls k 0 8)
  have H : Hid ((inB 1 4 d && inB 0 8 k) = cpO d k) := rfl
  cases h : inB 1 4 d
  · rw [h] at HI H
    clear h HS
    go_enter Try.func46, Try.ntmps46
    go_wp2_with fail
    refine (HI.out _).mono ?_
    rintro e w' ⟨rfl, rfl⟩
    go_wp2
    go_ret
    exact ⟨by rw [← H.out]; rfl, rfl⟩
  · rw [h] at HI H
    clear h
    go_enter Try.func46, Try.ntmps46
    go_wp2_with fail
    refine (HI.out _).mono ?_
    rintro e w' ⟨rfl, rfl⟩
    go_wp2_with fail
    refine (HS.out _).mono ?_
    rintro e w' ⟨rfl, rfl⟩
    go_wp2
    go_ret
    exact ⟨by rw [← H.out]; rfl, rfl⟩
/-- How many there are, for numbers that are told otherwise. -/
theorem count_as (D K : Nat) (hD : D ≤ 4) (hK : K ≤ 8) (W : World) (d k : Int) (h1 : d = (D : Int)) (h2 : k = (K : Int)) :
    Calls Try.prog 47 #[.int .i64 d, .int .i64 k] W fun e w' => e = .returned (.int .i64 (cnt D K : Int)) ∧ Below W.heap.size W w' := by
  subst h1 h2
  exact l11Count_calls D K W hD hK
theorem specCountPulses_calls (d k : Int) (w : World) : Calls Try.prog 21 #[.int .i64 d, .int .i64 k] w fun e w' => e = .returned (.agg #[.int .i64 (cpC d k), .int .i64 (cpV d k)]) ∧ Below w.heap.size w w' := by
  have HK := hid (l11Ask_calls d k)
  cases hk : cpO d k
  · have H : Hid (3 = cpC d k ∧ 0 = cpV d k) := ⟨(if_neg (by rw [hk]; decide)).symm, (if_neg (by rw [hk]; decide)).symm⟩
    rw [hk] at HK
    clear hk
    go_enter Try.func21, Try.ntmps21
    go_wp2_with (go_at_call 46; refine (HK.out _).mono ?_; rintro e w' ⟨rfl, rfl⟩)
    exact bodyPost_ret (v := .agg #[.int .i64 3, .int .i64 0]) (by simp [results, Try.results21, go_sem]) rfl ⟨ret_two H.out.1 H.out.2, bmore (Below.refl _ _) _⟩
  · have hk2 := hk
    unfold cpO at hk2
    simp at hk2
    have a := of_inB hk2.1
    have b := of_inB hk2.2
    have H : Hid (0 = cpC d k ∧ ctV d k = cpV d k) := ⟨(if_pos hk).symm, (if_pos hk).symm⟩
    have HC := hid (fun W => count_as d.toNat k.toNat (by omega) (by omega) W d k (by omega) (by omega))
    have HV : Hid ((cnt d.toNat k.toNat : Int) = ctV d k) := rfl
    rw [HV.out] at HC
    rw [hk] at HK
    clear hk hk2 a b HV
    generalize ctV d k = c at *
    go_enter Try.func21, Try.ntmps21
    go_wp2_with (first | (go_at_call 46; refine (HK.out _).mono ?_; rintro e w' ⟨rfl, rfl⟩) | fail)
    refine (HC.out _).mono ?_
    rintro e w1 ⟨rfl, hB⟩
    obtain ⟨c0, c1, f0, f1⟩ := ((Blk.new w #[.int .i64 0, .int .i64 0] 28).later hB).two
    have HB := hid (below_set2 (bthen (bmore (Below.refl w.heap.size w) _) hB) (.int .i64 0) (.int .i64 c))
    clear hB HC
    go_wp2
    exact bodyPost_ret (v := .agg #[.int .i64 0, .int .i64 c]) (by simp [results, Try.results21, go_sem, c0, c1]) rfl ⟨ret_two H.out.1 H.out.2, HB.out⟩
theorem topB_of {l : List Int} {k : Int} (h : l.all (inB (-k) k) = true) (hk : k ≤ 8) : l.all topB = true := by
  rw [List.all_eq_true] at h ⊢
  intro x hx
  have := of_inB (h x hx)
  exact inB_yes (by omega) (by omega)
set_option maxHeartbeats 1000000 in
theorem specPulsesFault_calls (v : Value) (xs : List Int) (k : Int) (w : World) (h : Sl .i64 w v xs) (hm : xs.length ≤ 1048576) :
    Calls Try.prog 13 #[v, .int .i64 k] w fun e w' => e = .returned (.int .i64 (pfC xs k)) ∧ w' = w := by
  have HA := hid (fun lo hi => all_calls v xs lo hi w h hm)
  have HI := hid (l1In_calls k 0 8)
  have Hs := hid h
  obtain ⟨a, cap, rfl, hc⟩ := h
  by_cases h1 : 1 ≤ xs.length
  · by_cases h4 : xs.length ≤ 4
    · have i1 : (1 : Int) ≤ xs.length := by omega
      have i4 : (xs.length : Int) ≤ 4 := by omega
      have hne : xs ≠ [] := by intro e; rw [e] at h1; simp at h1
      obtain ⟨b, off, rfl, hbl, hcell⟩ := hc hne
      have e1 : pfC xs k = if pkB k = true then (if rgt xs k = true then 0 else 1) else 3 := if_pos ⟨h1, h4⟩
      cases hk : pkB k
      · have H : Hid (3 = pfC xs k) := by show _ = _; rw [e1, hk]; rfl
        rw [show inB 0 8 k = false from hk] at HI
        clear hcell hc e1 hk HA Hs
        go_enter Try.func13, Try.ntmps13
        go_wp2_with (go_at_call 35; refine (HI.out _).mono ?_; rintro e w' ⟨rfl, rfl⟩)
        go_ret
        exact ⟨by rw [← H.out]; rfl, rfl⟩
      · have hkb := of_inB hk
        rw [show inB 0 8 k = true from hk] at HI
        have HAk := hid (HA.out (-k) k)
        cases ha : xs.all (inB (-k) k)
        · have H : Hid (1 = pfC xs k) := by show _ = _; rw [e1, hk, if_pos rfl, if_neg]; unfold rgt; rw [ha]; simp
          rw [ha] at HAk
          clear hcell hc e1 hk HA Hs ha
          go_enter Try.func13, Try.ntmps13
          go_wp2_with (first | (go_at_call 35; refine (HI.out _).mono ?_; rintro e w' ⟨rfl, rfl⟩) | (go_at_call 36; refine HAk.out.mono ?_; rintro e w' ⟨rfl, rfl⟩))
          go_ret
          exact ⟨by rw [← H.out]; rfl, rfl⟩
        · have HN := hid (l1Norm_some b off cap xs w (by omega) (topB_of ha (by omega)) hcell)
          rw [ha] at HAk
          by_cases hs : sumAbs xs = k
          · have H : Hid (0 = pfC xs k) := by show _ = _; rw [e1, hk, if_pos rfl, if_pos]; unfold rgt; rw [ha, hs]; simp
            have hb : (sumAbs xs != k) = false := by simpa using hs
            clear hcell hc e1 hk HA Hs ha hs
            generalize sumAbs xs = sa at *
            go_enter Try.func13, Try.ntmps13
            go_wp2_with (first | (go_at_call 35; refine (HI.out _).mono ?_; rintro e w' ⟨rfl, rfl⟩) | (go_at_call 36; refine HAk.out.mono ?_; rintro e w' ⟨rfl, rfl⟩) | (go_at_call 37; refine HN.out.mono ?_; rintro e w' ⟨rfl, rfl⟩))
            go_ret
            exact ⟨by rw [← H.out]; rfl, rfl⟩
          · have H : Hid (1 = pfC xs k) := by show _ = _; rw [e1, hk, if_pos rfl, if_neg]; unfold rgt; rw [decide_eq_false hs, Bool.and_false]; simp
            have hb : (sumAbs xs != k) = true := by simpa using hs
            clear hcell hc e1 hk HA Hs ha hs
            generalize sumAbs xs = sa at *
            go_enter Try.func13, Try.ntmps13
            go_wp2_with (first | (go_at_call 35; refine (HI.out _).mono ?_; rintro e w' ⟨rfl, rfl⟩) | (go_at_call 36; refine HAk.out.mono ?_; rintro e w' ⟨rfl, rfl⟩) | (go_at_call 37; refine HN.out.mono ?_; rintro e w' ⟨rfl, rfl⟩))
            go_ret
            exact ⟨by rw [← H.out]; rfl, rfl⟩
    · have i4 : (4 : Int) < xs.length := by omega
      have H : Hid (2 = pfC xs k) := (if_neg (by omega)).symm
      clear hc HA HI Hs
      go_enter Try.func13, Try.ntmps13
      go_wp2
      go_ret
      exact ⟨by rw [← H.out]; rfl, rfl⟩
  · have i1 : (xs.length : Int) = 0 := by omega
    have H : Hid (2 = pfC xs k) := (if_neg (by omega)).symm
    have hl : xs.length = 0 := by omega
    rw [hl]
    clear hc HA HI Hs
    go_enter Try.func13, Try.ntmps13
    go_wp2
    go_ret
    exact ⟨by rw [← H.out]; rfl, rfl⟩
theorem drop_cons (l : List Int) (j : Nat) (h : j < l.length) : l.drop j = l.getD j 0 :: l.drop (j + 1) := by
  rw [List.drop_eq_getElem_cons h, List.getD_eq_getElem?_getD, List.getElem?_eq_getElem h]; rfl
theorem SS_small {d L m : Nat} (hd : d < 4) (hL : L < 9) (hm : m ≤ 2 * L + 1) : SS d L m ≤ 100000 := by
  have h1 := SS_mono (d := d) (L := L) hm
  rw [SS_all d hd L hL] at h1
  have h2 := (cnt_small (d + 1) (by omega) L (by omega)).1
  omega
set_option maxRecDepth 100000 in
set_option maxHeartbeats 4000000 in
theorem l11Index_calls (v : Value) (l : List Int) (K : Nat) (w : World) (h : Sl .i64 w v l) (hl : l.length ≤ 4) (hK : K ≤ 8) (hn : nmN l = K) :
    Calls Try.prog 40 #[v, .int .i64 (K : Int)] w fun e w' => e = .returned (.int .i64 (idx l K : Int)) ∧ Below w.heap.size w w' := by
  have HC := hid count_as
  have Hs := hid h
  obtain ⟨a, cap, rfl, hc⟩ := h
  have HX : Hid (∀ j, j < l.length → l.drop j = l.getD j 0 :: l.drop (j + 1)) := fun j hj => drop_cons l j hj
  have hlI : (l.length : Int) ≤ 4 := by omega
  have hKI : (K : Int) ≤ 8 := by omega
  have h0 : Hid (nmN (l.drop 0) = K ∧ 0 + idx (l.drop 0) K = idx l K) := ⟨hn, Nat.zero_add _⟩
  clear hc
  generalize idx l K = goal at *
  go_enter Try.func40, Try.ntmps40
  go_wp2_with fail
  go_loopw [5, 6, 7] (fun n left i wr => ∃ j L N : Nat, j ≤ l.length ∧ L ≤ 8 ∧ N ≤ 1000000 ∧ n = .int .i64 (N : Int) ∧ left = .int .i64 (L : Int) ∧ i = .int .i64 (j : Int) ∧ Hid (nmN (l.drop j) = L ∧ N + idx (l.drop j) L = goal) ∧ Hid (N ≤ 100000 * j) ∧ Hid (Below w.heap.size w wr)) (fun _ _ i _ => l.length - (intOf i).toNat)
  case atStart => exact ⟨0, K, 0, Nat.zero_le _, hK, by omega, rfl, rfl, rfl, h0.out, by show _ ≤ _; omega, Below.refl _ _⟩
  case round =>
    obtain ⟨j, L, N, hj, hL, hN, rfl, rfl, rfl, hinv, hNb, hB⟩ := hrel
    clear h0
    by_cases hlt : j < l.length
    · have hne : l ≠ [] := by intro e; rw [e] at hlt; simp at hlt
      obtain ⟨D, hD⟩ : ∃ D, l.length = j + 1 + D := ⟨l.length - j - 1, by omega⟩
      have hrl : (l.drop (j + 1)).length = D := by rw [List.length_drop]; omega
      obtain ⟨x, hx⟩ : ∃ x, l.getD j 0 = x := ⟨_, rfl⟩
      have hdc := HX.out j hlt
      rw [hx] at hdc
      obtain ⟨i1, i2⟩ := hinv.out
      rw [hdc] at i1 i2
      have i1' : x.natAbs + nmN (l.drop (j + 1)) = L := i1
      have i2' : N + (SS (l.drop (j + 1)).length L (x + L).toNat + idx (l.drop (j + 1)) (L - x.natAbs)) = goal := i2
      rw [hrl] at i2'
      have hxb : -(L : Int) ≤ x ∧ x ≤ L := by omega
      obtain ⟨M, hM⟩ : ∃ M, (x + L).toNat = M := ⟨_, rfl⟩
      rw [hM] at i2'
      have hMx : x = (M : Int) - L := by omega
      have hM2 : M ≤ 2 * L := by omega
      have Hi2 := hid i2'
      have Hi1 := hid i1'
      have hss := fun m (hm : m ≤ M) => SS_small (d := D) (L := L) (m := m) (by omega) (by omega) (by omega)
      have HSS := hid hss
      have hLI : (L : Int) ≤ 8 := by omega
      have hNI : (N : Int) ≤ 1000000 := by omega
      have HDI : Hid ((l.length : Int) = (j : Int) + 1 + (D : Int)) := by show _ = _; omega
      have hjI : (j : Int) < (l.length : Int) := by omega
      have hD4 : D < 4 := by omega
      have hN4 := hNb.out
      have HD := hid hD
      have Hx := hid hx
      clear hinv i1 i2 i1' i2' hdc hss hD hx hrl HX
      generalize wr = w0 at *
      go_wp2_with fail
      go_loopw [5, 8] (fun n y wq => ∃ m : Nat, m ≤ M ∧ n = .int .i64 ((N + SS D L m : Nat) : Int) ∧ y = .int .i64 ((m : Int) - L) ∧ Hid (Below w.heap.size w wq)) (fun _ y _ => (M - L - intOf y).toNat)
      case atStart => exact ⟨0, Nat.zero_le _, rfl, by go_num, hB.out⟩
      case round =>
        obtain ⟨m, hm, rfl, rfl, hB2⟩ := hrel
        clear hB
        have Hs2 := Hs.out.later hB2.out
        obtain ⟨a', cap', hv, hc⟩ := Hs2
        cases hv
        obtain ⟨b, off, rfl, hbl, hcell⟩ := hc hne
        have hce := hcell j hlt
        rw [Hx.out] at hce
        have hss := HSS.out m hm
        clear hc hcell
        by_cases hmM : m < M
        · obtain ⟨A, hA⟩ : ∃ A, (if m ≤ L then L - m else m - L) = A := ⟨_, rfl⟩
          have hAv : absV ((m : Int) - L) = (A : Int) := by
            have := absV_bd ((m : Int) - L)
            unfold absV
            split at hA <;> split <;> omega
          have hAL : A ≤ L := by split at hA <;> omega
          have htm : (((N + SS D L (m + 1) : Nat)) : Int) = ((N + SS D L m : Nat) : Int) + (cnt D (L - A) : Int) := by
            rw [SS_succ]
            have : tm D L m = cnt D (L - A) := by unfold tm; rw [hA]
            rw [this]; omega
          have HAb : Hid (∀ W (y : Int), y = (m : Int) - L → Calls Try.prog 55 #[.int .i64 y] W fun e w' => e = .returned (.int .i64 (A : Int)) ∧ w' = W) := fun W y hy => by
            subst hy
            refine (l1Abs_calls _ W (by omega) (by omega)).mono ?_
            rintro e w' ⟨rfl, rfl⟩
            exact ⟨by rw [hAv], rfl⟩
          have HCn := hid (fun W => HC.out D (L - A) (by omega) (by omega) W)
          have hcs := (cnt_small D (by omega) (L - A) (by omega)).1
          have hcI : (cnt D (L - A) : Int) ≤ 100000 := by omega
          have hc0 : 0 ≤ (cnt D (L - A) : Int) := by omega
          have hLA : ((L - A : Nat) : Int) = (L : Int) - (A : Int) := by omega
          have hcond : (m : Int) - L < x := by omega
          have HT := hid htm
          have HLA := hid hLA
          have hnb0 : 0 ≤ ((N + SS D L m : Nat) : Int) := by omega
          have hnb1 : ((N + SS D L m : Nat) : Int) ≤ 1100000 := by omega
          have hAI : (A : Int) ≤ (L : Int) := by omega
          clear hA hAv htm hLA HC HSS Hi1 Hi2 hcs hss
          generalize (cnt D (L - A) : Int) = cc at *
          generalize ((N + SS D L m : Nat) : Int) = nn at *
          go_wp2_with fail
          refine (HAb.out _ _ (by omega)).mono ?_
          rintro e w5 ⟨rfl, rfl⟩
          go_wp2_with fail
          refine (HCn.out _ _ _ (by have := HDI.out; omega) (by rw [HLA.out])).mono ?_
          rintro e w6 ⟨rfl, hb6⟩
          have HB6 := hid (bthen hB2.out hb6)
          clear hb6 HAb HCn hB2 hce
          go_wp2
          go_roundw
          case rel => exact ⟨m + 1, by omega, by rw [HT.out], by go_num, HB6.out⟩
          case measure => simp [intOf]; omega
        · obtain rfl : m = M := by omega
          have hcond : ¬ (m : Int) - L < x := by omega
          obtain ⟨A, hA⟩ : ∃ A, x.natAbs = A := ⟨_, rfl⟩
          have hAv : absV x = (A : Int) := by unfold absV; split <;> omega
          have HAb := hid (fun W => l1Abs_calls x W (by omega) (by omega))
          rw [hAv] at HAb
          have hAL : (A : Int) ≤ (L : Int) := by omega
          have hrest : Hid (nmN (l.drop (j + 1)) = L - A ∧ (N + SS D L m) + idx (l.drop (j + 1)) (L - A) = goal) := by
            have := Hi1.out
            have := Hi2.out
            rw [hA] at *
            exact ⟨by omega, by omega⟩
          have hNN : Hid (N + SS D L m ≤ 100000 * (j + 1)) := by show _ ≤ _; omega
          have HLA : Hid (((L - A : Nat) : Int) = (L : Int) - (A : Int)) := by show _ = _; omega
          have hNN2 : Hid (N + SS D L m ≤ 1000000) := by show _ ≤ _; omega
          have hL8 : Hid (L - A ≤ 8) := by show _ ≤ _; omega
          clear hAv hA HC HSS Hi1 Hi2 hss hMx hM2
          go_wp2_with fail
          refine (HAb.out _).mono ?_
          rintro e w5 ⟨rfl, rfl⟩
          go_wp2
          go_roundw
          case rel => exact ⟨j + 1, L - A, N + SS D L m, by omega, hL8.out, hNN2.out, rfl, by rw [HLA.out], by go_num, hrest.out, hNN.out, hB2.out⟩
          case measure => simp [intOf]; omega
    · obtain rfl : j = l.length := by omega
      have hg : Hid (N = goal) := by
        have := hinv.out.2
        rw [List.drop_length] at this
        exact this
      have HBz := hid hB.out
      clear hinv hB HX HC hNb
      go_wp2
      go_ret
      exact ⟨by rw [hg.out]; rfl, HBz.out⟩
end Go.Proofs.Ytpoannaidojmoaa.PulT
