/- The program's pulses: how many there are, faults, numbers of pulses, pulses of a number, the ones right behind. No conditions. -/
import Derived.Test.YtpoannaidojmoaaPulL
import Derived.Test.YtpoannaidojmoaaNorm
namespace Go.Proofs.Ytpoannaidojmoaa.PulF
open Go.ChangeShapes Go.WideShapes Go.ChangeAt Go.RowKit Go.Proofs.Ytpoannaidojmoaa.Num Go.Proofs.Ytpoannaidojmoaa.Sli Go.Proofs.Ytpoannaidojmoaa.HalM Go.Proofs.Ytpoannaidojmoaa.Norm Go.Proofs.Ytpoannaidojmoaa.PulM Go.Proofs.Ytpoannaidojmoaa.Blk Go.Proofs.Ytpoannaidojmoaa.App Go.Proofs.Ytpoannaidojmoaa.Div Go.Proofs.Ytpoannaidojmoaa.IntL Go.Proofs.Ytpoannaidojmoaa.IntA Go.Proofs.Ytpoannaidojmoaa.BkI Go.Proofs.Ytpoannaidojmoaa.PulH Go.Proofs.Ytpoannaidojmoaa.PulI Go.Proofs.Ytpoannaidojmoaa.PulL

theorem nil_own (base : Nat) (w : World) : OwI base w (.slice none 0 0) [] := ⟨rfl, .inl ⟨rfl, rfl⟩⟩
theorem cp_no {d k : Int} (h : cpO d k = false) : cpC d k = 3 ∧ cpV d k = 0 := ⟨if_neg (by rw [h]; decide), if_neg (by rw [h]; decide)⟩
theorem cp_yes {d k : Int} (h : cpO d k = true) : cpC d k = 0 ∧ cpV d k = ctI d k ∧ (1 ≤ d ∧ d ≤ 4) ∧ 0 ≤ k ∧ k ≤ 8 := by
  have h2 := h
  unfold cpO at h2
  simp at h2
  exact ⟨if_pos h, if_pos h, of_inB h2.1, of_inB h2.2⟩
set_option maxHeartbeats 2000000 in
theorem implCountPulses_calls (d k : Int) (w : World) :
    Calls Try.prog 19 #[.int .i64 d, .int .i64 k] w fun e w' => e = .returned (.agg #[.int .i64 (cpC d k), .int .i64 (cpV d k)]) ∧ Below w.heap.size w w' := by
  have HL := hid (isLot_calls d k)
  cases h : cpO d k
  · have H := hid (cp_no h)
    rw [h] at HL
    go_enter Try.func19, Try.ntmps19
    go_wp2_with fail
    refine (HL.out _).mono ?_
    rintro e w1 ⟨rfl, hb1⟩
    obtain ⟨hR, _, hB, _⟩ := boxes2 hb1
    obtain ⟨c0, c1, f0, f1⟩ := hR.two
    have HB := hid hB
    clear hb1 hR hB HL h
    go_wp2
    exact bodyPost_ret (v := .agg #[.int .i64 3, .int .i64 0]) (by simp [results, Try.results19, go_sem, c0, c1]) rfl ⟨by rw [H.out.1, H.out.2], below_set2 HB.out _ _⟩
  · obtain ⟨e1, e2, hd, hk⟩ := cp_yes h
    have H := hid (And.intro e1 e2)
    have HM := hid (fun W => many_calls d k W hd hk)
    rw [h] at HL
    clear e1 e2 hd hk
    go_enter Try.func19, Try.ntmps19
    go_wp2_with fail
    refine (HL.out _).mono ?_
    rintro e w1 ⟨rfl, hb1⟩
    obtain ⟨hR, hV, hB, _⟩ := boxes2 hb1
    obtain ⟨v0, v1, _, _⟩ := hV.two
    have HB := hid hB
    have HR := hid hR
    clear hb1 hR hB hV HL h
    go_wp2_with fail
    refine (HM.out _).mono ?_
    rintro e w2 ⟨rfl, hb2⟩
    obtain ⟨c0, c1, f0, f1⟩ := (HR.out.later hb2).two
    have HB2 := hid (bthen HB.out hb2)
    clear hb2 HR HB v0 v1
    generalize ctI d k = x at *
    go_wp2
    exact bodyPost_ret (v := .agg #[.int .i64 0, .int .i64 x]) (by simp [results, Try.results19, go_sem, c0, c1]) rfl ⟨by rw [H.out.1, H.out.2], below_set2 HB2.out _ _⟩
theorem nm_rgt {xs : List Int} {k : Int} (hl : ¬ 64 < xs.length) (hk : 0 ≤ k ∧ k ≤ 8) : (nmC xs == 0 && nmV xs == k) = rgt xs k := by
  by_cases ha : xs.all topB = true
  · obtain ⟨e1, e2⟩ := nm_yes hl ha
    rw [← e1, ← e2]
    unfold rgt
    by_cases hs : sumAbs xs = k
    · have hn := nmN_sum xs
      have hall : xs.all (inB (-k) k) = true := by
        rw [List.all_eq_true]
        intro x hx
        have := abs_le_nm xs x hx
        exact inB_yes (by omega) (by omega)
      rw [hall, hs]; simp
    · have : (sumAbs xs == k) = false := by simpa using hs
      rw [this, decide_eq_false hs]; simp
  · have hr : rgt xs k = false := by
      cases q : rgt xs k
      · rfl
      · exfalso
        unfold rgt at q
        simp only [Bool.and_eq_true, List.all_eq_true] at q
        refine ha (List.all_eq_true.2 fun x hx => ?_)
        have := of_inB (q.1 x hx)
        exact inB_yes (by omega) (by omega)
    rw [hr]
    have : nmC xs = 3 := by unfold nmC; rw [if_neg hl, if_neg ha]
    rw [this]; rfl
set_option maxHeartbeats 2000000 in
theorem implPulsesFault_calls (v : Value) (xs : List Int) (k : Int) (w : World) (h : Sl .i64 w v xs) (_hf : Fits v) (_hm : xs.length ≤ 1048576) :
    Calls Try.prog 14 #[v, .int .i64 k] w fun e w' => e = .returned (.int .i64 (pfC xs k)) ∧ Below w.heap.size w w' := by
  have HN := hid (implNormOf_calls v xs w h)
  have HW1 := hid (isWithin_calls (xs.length : Int) 1 4)
  have HW2 := hid (isWithin_calls k 0 8)
  obtain ⟨a, cap, hv, _⟩ := h
  subst hv
  cases h1 : inB 1 4 (xs.length : Int)
  · have H : Hid (pfC xs k = 2) := hid (by
      unfold pfC
      rw [if_neg]
      intro hh
      have : inB 1 4 (xs.length : Int) = true := inB_yes (by omega) (by omega)
      rw [h1] at this; cases this)
    rw [h1] at HW1
    clear h1 HN HW2
    go_enter Try.func14, Try.ntmps14
    go_wp2_with fail
    refine (HW1.out _).mono ?_
    rintro e w1 ⟨rfl, rfl⟩
    go_wp2
    go_ret
    exact ⟨by rw [H.out]; rfl, Below.refl _ _⟩
  · have hl := of_inB h1
    rw [h1] at HW1
    cases h2 : inB 0 8 k
    · have H : Hid (pfC xs k = 3) := hid (by
        unfold pfC
        rw [if_pos (by omega), if_neg (by show ¬ inB 0 8 k = true; rw [h2]; decide)])
      rw [h2] at HW2
      clear h1 h2 HN hl
      go_enter Try.func14, Try.ntmps14
      go_wp2_with fail
      refine (HW1.out _).mono ?_
      rintro e w1 ⟨rfl, rfl⟩
      go_wp2_with fail
      refine (HW2.out _).mono ?_
      rintro e w1 ⟨rfl, rfl⟩
      go_wp2
      go_ret
      exact ⟨by rw [H.out]; rfl, Below.refl _ _⟩
    · have hk := of_inB h2
      have hr := nm_rgt (xs := xs) (k := k) (by omega) hk
      have H : Hid (pfC xs k = if rgt xs k = true then 0 else 1) := hid (by
        unfold pfC
        rw [if_pos (by omega), if_pos (show pkB k = true from h2)])
      rw [h2] at HW2
      clear h1 h2 hl hk
      generalize nmC xs = c at *
      generalize nmV xs = s at *
      go_enter Try.func14, Try.ntmps14
      go_wp2_with fail
      refine (HW1.out _).mono ?_
      rintro e w1 ⟨rfl, rfl⟩
      go_wp2_with fail
      refine (HW2.out _).mono ?_
      rintro e w1 ⟨rfl, rfl⟩
      go_wp2_with fail
      refine HN.out.mono ?_
      rintro e w1 ⟨rfl, hb1⟩
      have HB := hid hb1
      clear hb1 HN HW1 HW2
      by_cases hc : c = 0
      · subst hc
        by_cases hs : s = k
        · subst hs
          have hg : rgt xs s = true := by rw [← hr]; simp
          clear hr
          go_wp2
          go_ret
          exact ⟨by rw [H.out, hg]; rfl, HB.out⟩
        · have hg : rgt xs k = false := by rw [← hr]; simp [hs]
          clear hr
          go_wp2
          go_ret
          exact ⟨by rw [H.out, hg]; rfl, HB.out⟩
      · have hg : rgt xs k = false := by rw [← hr]; simp [hc]
        clear hr
        go_wp2
        go_ret
        exact ⟨by rw [H.out, hg]; rfl, HB.out⟩
theorem ip_no {xs : List Int} {k : Int} (h : pfC xs k ≠ 0) : ipV xs k = 0 := if_neg h
theorem ip_yes {xs : List Int} {k : Int} (h : pfC xs k = 0) : ipV xs k = ixV xs k := if_pos h
set_option maxHeartbeats 2000000 in
theorem implIndexPulses_calls (v : Value) (xs : List Int) (k : Int) (w : World) (h : Sl .i64 w v xs) (hf : Fits v) (hm : xs.length ≤ 1048576) :
    Calls Try.prog 11 #[v, .int .i64 k] w fun e w' => e = .returned (.agg #[.int .i64 (pfC xs k), .int .i64 (ipV xs k)]) ∧ Below w.heap.size w w' := by
  have HF := hid (fun W (hW : Sl .i64 W v xs) => implPulsesFault_calls v xs k W hW hf hm)
  have HS0 := hid (h.later (bmore (Below.refl _ w) (.cells #[.int .i64 0, .int .i64 0] 28)))
  obtain ⟨a, cap, hv, _⟩ := h
  subst hv
  clear hf
  by_cases hp : pfC xs k = 0
  · have HA := hid (fun W (hW : Sl .i64 W (.slice a xs.length cap) xs) => ahead_calls _ xs k W hW hp)
    have H := hid (ip_yes hp)
    have HLo := hid (fun W => lotOf_calls (.slice a xs.length cap) xs.length a cap k W rfl)
    rw [hp] at HF
    obtain ⟨x, hx⟩ : ∃ x, ixV xs k = x := ⟨_, rfl⟩
    rw [hp, H.out, hx]
    rw [hx] at HA
    clear hp hx H
    go_enter Try.func11, Try.ntmps11
    go_wp2_with fail
    refine (HF.out _ HS0.out).mono ?_
    rintro e w1 ⟨rfl, hb1⟩
    have HR1 := hid ((Blk.new w #[.int .i64 0, .int .i64 0] 28).later hb1)
    have HB1 := hid (bthen (bmore (Below.refl _ w) _) hb1)
    have HS1 := hid (HS0.out.later hb1)
    clear hb1 HF HS0
    go_wp2_with fail
    refine (HLo.out _).mono ?_
    rintro e w2 ⟨rfl, hb2⟩
    have HR2 := hid (HR1.out.later hb2)
    have HB2 := hid (bthen HB1.out hb2)
    have HS2 := hid (HS1.out.later hb2)
    clear hb2 HR1 HB1 HS1
    go_wp2_with fail
    refine (HA.out _ HS2.out).mono ?_
    rintro e w3 ⟨rfl, hb3⟩
    obtain ⟨c0, c1, f0, f1⟩ := (HR2.out.later hb3).two
    have HB3 := hid (bthen HB2.out hb3)
    clear hb3 HR2 HB2 HS2
    go_wp2
    exact bodyPost_ret (v := .agg #[.int .i64 0, .int .i64 x]) (by simp [results, Try.results11, go_sem, c0, c1]) rfl ⟨rfl, below_set2 HB3.out _ _⟩
  · have H := hid (ip_no hp)
    rw [H.out]
    generalize pfC xs k = c at *
    go_enter Try.func11, Try.ntmps11
    go_wp2_with fail
    refine (HF.out _ HS0.out).mono ?_
    rintro e w1 ⟨rfl, hb1⟩
    have HR1 := hid ((Blk.new w #[.int .i64 0, .int .i64 0] 28).later hb1)
    have HB1 := hid (bthen (bmore (Below.refl _ w) _) hb1)
    obtain ⟨c0, c1, f0, f1⟩ := HR1.out.two
    clear hb1 HF HS0 HR1 H
    go_wp2
    exact bodyPost_ret (v := .agg #[.int .i64 c, .int .i64 0]) (by simp [results, Try.results11, go_sem, c0, c1]) rfl ⟨rfl, below_set2 HB1.out _ _⟩
theorem pl_no {d k i : Int} (h : plO d k i = false) : 3 = plC d k i ∧ [] = plL d k i := ⟨(if_neg (by rw [h]; decide)).symm, (if_neg (by rw [h]; decide)).symm⟩
set_option maxHeartbeats 2000000 in
theorem implPulsesAt_calls (d k i : Int) (w : World) :
    Calls Try.prog 17 #[.int .i64 d, .int .i64 k, .int .i64 i] w fun e w' => ∃ u, e = .returned (.agg #[.int .i64 (plC d k i), u]) ∧ OwI w.heap.size w' u (plL d k i) ∧ Below w.heap.size w w' := by
  have HL := hid (isLot_calls d k)
  cases h : cpO d k
  · have H := hid (pl_no (i := i) (show plO d k i = false by unfold plO; rw [h]; rfl))
    rw [h] at HL
    clear h
    go_enter Try.func17, Try.ntmps17
    go_wp2_with fail
    refine (HL.out _).mono ?_
    rintro e w1 ⟨rfl, hb1⟩
    obtain ⟨hR, _, hB, _⟩ := boxes2 hb1
    obtain ⟨c0, c1, f0, f1⟩ := hR.two
    have HB := hid hB
    clear hb1 hR hB HL
    go_wp2
    exact bodyPost_ret (v := .agg #[.int .i64 3, .slice none 0 0]) (by simp [results, Try.results17, go_sem, c0, c1]) rfl ⟨_, by rw [← H.out.1], by rw [← H.out.2]; exact nil_own _ _, below_set2 HB.out _ _⟩
  · obtain ⟨_, _, hd, hk⟩ := cp_yes h
    have HM := hid (fun W => many_calls d k W hd hk)
    have hcb := ctI_bd hd.2 hk.2
    have HW := hid (isWithin_calls i 0 (ctI d k - 1))
    have hpe : Hid (plO d k i = inB 0 (ctI d k - 1) i) := hid (by unfold plO; rw [h]; rfl)
    rw [h] at HL
    cases h2 : inB 0 (ctI d k - 1) i
    · have H := hid (pl_no (hpe.out.trans h2))
      rw [h2] at HW
      clear h h2 hd hk hpe
      go_enter Try.func17, Try.ntmps17
      go_wp2_with fail
      refine (HL.out _).mono ?_
      rintro e w1 ⟨rfl, hb1⟩
      obtain ⟨hR, hV, hB, _⟩ := boxes2 hb1
      obtain ⟨v0, v1, _, _⟩ := hV.two
      have HR := hid hR
      have HB := hid hB
      clear hb1 hR hB HL hV
      go_wp2_with fail
      refine (HM.out _).mono ?_
      rintro e w2 ⟨rfl, hb2⟩
      have HR2 := hid (HR.out.later hb2)
      have HB2 := hid (bthen HB.out hb2)
      clear hb2 HR HB HM v0 v1
      generalize ctI d k = x at *
      go_wp2_with fail
      refine (HW.out _).mono ?_
      rintro e w3 ⟨rfl, rfl⟩
      obtain ⟨c0, c1, f0, f1⟩ := HR2.out.two
      clear HR2 HW
      go_wp2
      exact bodyPost_ret (v := .agg #[.int .i64 3, .slice none 0 0]) (by simp [results, Try.results17, go_sem, c0, c1]) rfl ⟨_, by rw [← H.out.1], by rw [← H.out.2]; exact nil_own _ _, below_set2 HB2.out _ _⟩
    · have hp : plC d k i = 0 := if_pos (hpe.out.trans h2)
      have HA := hid (fun W => pulsesAt_calls d k i W hp)
      rw [hp]
      rw [h2] at HW
      clear h h2 hd hk hpe hp
      go_enter Try.func17, Try.ntmps17
      go_wp2_with fail
      refine (HL.out _).mono ?_
      rintro e w1 ⟨rfl, hb1⟩
      obtain ⟨hR, hV, hB, _⟩ := boxes2 hb1
      obtain ⟨v0, v1, _, _⟩ := hV.two
      have HR := hid hR
      have HV := hid hV
      have HB := hid hB
      clear hb1 hR hB HL hV
      go_wp2_with fail
      refine (HM.out _).mono ?_
      rintro e w2 ⟨rfl, hb2⟩
      have HR2 := hid (HR.out.later hb2)
      have HV2 := hid (HV.out.later hb2)
      have HB2 := hid (bthen HB.out hb2)
      clear hb2 HR HB HM HV v0 v1
      generalize ctI d k = x at *
      go_wp2_with fail
      refine (HW.out _).mono ?_
      rintro e w3 ⟨rfl, rfl⟩
      obtain ⟨v0, v1, _, _⟩ := HV2.out.two
      clear HW HV2
      go_wp2_with fail
      refine (HA.out _).mono ?_
      rintro e w4 ⟨u, rfl, ho, hb4⟩
      obtain ⟨au, cu, hu, _⟩ := ho.sl
      subst hu
      obtain ⟨c0, c1, f0, f1⟩ := (HR2.out.later hb4).two
      have HB4 := hid (below_set2 (bthen HB2.out hb4) (.int .i64 0) (.slice au (plL d k i).length cu))
      have HO := hid ((ho.mono (base' := w.heap.size + 1) HR2.out.lt).set2 (.int .i64 0) (.slice au (plL d k i).length cu))
      clear hb4 HR2 HB2 ho v0 v1
      go_wp2
      exact bodyPost_ret (v := .agg #[.int .i64 0, .slice au (plL d k i).length cu]) (by simp [results, Try.results17, go_sem, c0, c1]) rfl ⟨_, rfl, HO.out, HB4.out⟩
theorem np_fault {xs : List Int} {k : Int} (h : pfC xs k ≠ 0) : npC xs k = pfC xs k ∧ [] = npL xs k := by
  have e : npC xs k = pfC xs k := if_neg h
  exact ⟨e, (if_neg (by rw [e]; exact h)).symm⟩
theorem np_last {xs : List Int} {k : Int} (h : pfC xs k = 0) (hl : ixV xs k + 1 = ctI xs.length k) : npC xs k = 4 ∧ [] = npL xs k := by
  have hn : ¬ plC xs.length k (npI xs k) = 0 := fun q => by
    have := (pl_yes q).2.2.2.2.2.1
    have e : ctV (xs.length : Int) k = ctI xs.length k := rfl
    have e2 : npI xs k = ixV xs k + 1 := rfl
    omega
  have e : npC xs k = 4 := by unfold npC; rw [if_pos h, if_neg hn]
  exact ⟨e, (if_neg (by rw [e]; decide)).symm⟩
theorem np_more {xs : List Int} {k : Int} (h : pfC xs k = 0) (hl : ixV xs k + 1 ≠ ctI xs.length k) : npC xs k = 0 ∧ npL xs k = plL xs.length k (ixV xs k + 1) ∧ plC xs.length k (ixV xs k + 1) = 0 := by
  obtain ⟨d1, d2, k1, k2, hn, _⟩ := pf_yes h
  have hlt := idx_lt xs k.toNat hn (by omega) (by omega)
  have e1 : ctI (xs.length : Int) k = (cnt xs.length k.toNat : Int) := rfl
  have e2 : ctV (xs.length : Int) k = (cnt xs.length k.toNat : Int) := rfl
  have e3 : ixV xs k = (idx xs k.toNat : Int) := rfl
  have hp : plC xs.length k (ixV xs k + 1) = 0 := pl_of (by omega) ⟨k1, k2⟩ (by omega)
  have e : npC xs k = 0 := by unfold npC; rw [if_pos h, if_pos (show plC xs.length k (npI xs k) = 0 from hp)]
  exact ⟨e, if_pos e, hp⟩
theorem ix_bd {xs : List Int} {k : Int} (h : pfC xs k = 0) : 0 ≤ ixV xs k ∧ ixV xs k ≤ 100000 := by
  obtain ⟨d1, d2, k1, k2, hn, _⟩ := pf_yes h
  have hlt := idx_lt xs k.toNat hn (by omega) (by omega)
  have hsm := (cnt_small xs.length (by omega) k.toNat (by omega)).1
  unfold ixV
  omega
set_option maxHeartbeats 2000000 in
theorem implNextPulses_calls (v : Value) (xs : List Int) (k : Int) (w : World) (h : Sl .i64 w v xs) (hf : Fits v) (hm : xs.length ≤ 1048576) :
    Calls Try.prog 12 #[v, .int .i64 k] w fun e w' => ∃ u, e = .returned (.agg #[.int .i64 (npC xs k), u]) ∧ OwI w.heap.size w' u (npL xs k) ∧ Below w.heap.size w w' := by
  have HF := hid (fun W (hW : Sl .i64 W v xs) => implPulsesFault_calls v xs k W hW hf hm)
  have HS0 := hid (h.later (bmore (Below.refl _ w) (.cells #[.int .i64 0, .slice none 0 0] 31)))
  obtain ⟨a, cap, hv, _⟩ := h
  subst hv
  clear hf
  by_cases hp : pfC xs k = 0
  · obtain ⟨d1, d2, k1, k2, _, _⟩ := pf_yes hp
    have HA := hid (fun W (hW : Sl .i64 W (.slice a xs.length cap) xs) => ahead_calls _ xs k W hW hp)
    have HLo := hid (fun W => lotOf_calls (.slice a xs.length cap) xs.length a cap k W rfl)
    have HM := hid (fun W => many_calls xs.length k W (by omega) ⟨k1, k2⟩)
    have hxb := ix_bd hp
    have hcb := ctI_bd (a := (xs.length : Int)) (b := k) (by omega) k2
    by_cases hl : ixV xs k + 1 = ctI xs.length k
    · have H := hid (np_last hp hl)
      rw [hp] at HF
      rw [H.out.1, ← H.out.2]
      rw [← hl] at HM
      clear hp d1 d2 k1 k2 hl H hcb
      generalize ixV xs k = x at *
      go_enter Try.func12, Try.ntmps12
      go_wp2_with fail
      refine (HF.out _ HS0.out).mono ?_
      rintro e w1 ⟨rfl, hb1⟩
      have HR1 := hid ((Blk.new w #[.int .i64 0, .slice none 0 0] 31).later hb1)
      have HB1 := hid (bthen (bmore (Below.refl _ w) _) hb1)
      have HS1 := hid (HS0.out.later hb1)
      clear hb1 HF HS0
      go_wp2_with fail
      refine (HLo.out _).mono ?_
      rintro e w2 ⟨rfl, hb2⟩
      have HR2 := hid ((HR1.out.later hb2).alloc (.cells #[.int .i64 xs.length, .int .i64 k] 49))
      have HV2 := hid (Blk.new w2 #[.int .i64 xs.length, .int .i64 k] 49)
      have HB2 := hid (bmore (bthen HB1.out hb2) (.cells #[.int .i64 xs.length, .int .i64 k] 49))
      have HS2 := hid ((HS1.out.later hb2).later (bmore (Below.refl _ w2) (.cells #[.int .i64 xs.length, .int .i64 k] 49)))
      obtain ⟨v0, v1, _, _⟩ := HV2.out.two
      clear hb2 HR1 HB1 HS1
      go_wp2_with fail
      refine (HA.out _ HS2.out).mono ?_
      rintro e w3 ⟨rfl, hb3⟩
      have HR3 := hid (HR2.out.later hb3)
      have HV3 := hid (HV2.out.later hb3)
      have HB3 := hid (bthen HB2.out hb3)
      obtain ⟨v0, v1, _, _⟩ := HV3.out.two
      clear hb3 HR2 HB2 HS2 HV2
      go_wp2_with fail
      refine (HM.out _).mono ?_
      rintro e w4 ⟨rfl, hb4⟩
      have HB4 := hid (bthen HB3.out hb4)
      obtain ⟨c0, c1, f0, f1⟩ := (HR3.out.later hb4).two
      clear hb4 HR3 HB3 HV3 HA HM HLo v0 v1
      go_wp2
      exact bodyPost_ret (v := .agg #[.int .i64 4, .slice none 0 0]) (by simp [results, Try.results12, go_sem, c0, c1]) rfl ⟨_, rfl, nil_own _ _, below_set2 HB4.out _ _⟩
    · obtain ⟨e1, e2, e3⟩ := np_more hp hl
      have HP := hid (fun W => pulsesAt_calls xs.length k (ixV xs k + 1) W e3)
      rw [hp] at HF
      rw [e1, e2]
      clear hp d1 d2 k1 k2 e1 e2 e3
      generalize plL xs.length k (ixV xs k + 1) = l at *
      generalize ixV xs k = x at *
      generalize ctI xs.length k = c at *
      go_enter Try.func12, Try.ntmps12
      go_wp2_with fail
      refine (HF.out _ HS0.out).mono ?_
      rintro e w1 ⟨rfl, hb1⟩
      have HR1 := hid ((Blk.new w #[.int .i64 0, .slice none 0 0] 31).later hb1)
      have HB1 := hid (bthen (bmore (Below.refl _ w) _) hb1)
      have HS1 := hid (HS0.out.later hb1)
      clear hb1 HF HS0
      go_wp2_with fail
      refine (HLo.out _).mono ?_
      rintro e w2 ⟨rfl, hb2⟩
      have HR2 := hid ((HR1.out.later hb2).alloc (.cells #[.int .i64 xs.length, .int .i64 k] 49))
      have HV2 := hid (Blk.new w2 #[.int .i64 xs.length, .int .i64 k] 49)
      have HB2 := hid (bmore (bthen HB1.out hb2) (.cells #[.int .i64 xs.length, .int .i64 k] 49))
      have HS2 := hid ((HS1.out.later hb2).later (bmore (Below.refl _ w2) (.cells #[.int .i64 xs.length, .int .i64 k] 49)))
      obtain ⟨v0, v1, _, _⟩ := HV2.out.two
      clear hb2 HR1 HB1 HS1
      go_wp2_with fail
      refine (HA.out _ HS2.out).mono ?_
      rintro e w3 ⟨rfl, hb3⟩
      have HR3 := hid (HR2.out.later hb3)
      have HV3 := hid (HV2.out.later hb3)
      have HB3 := hid (bthen HB2.out hb3)
      obtain ⟨v0, v1, _, _⟩ := HV3.out.two
      clear hb3 HR2 HB2 HS2 HV2
      go_wp2_with fail
      refine (HM.out _).mono ?_
      rintro e w4 ⟨rfl, hb4⟩
      have HR4 := hid (HR3.out.later hb4)
      have HV4 := hid (HV3.out.later hb4)
      have HB4 := hid (bthen HB3.out hb4)
      obtain ⟨v0, v1, _, _⟩ := HV4.out.two
      clear hb4 HR3 HB3 HV3
      go_wp2_with fail
      refine (HP.out _).mono ?_
      rintro e w5 ⟨u, rfl, ho, hb5⟩
      obtain ⟨au, cu, hu, _⟩ := ho.sl
      subst hu
      obtain ⟨c0, c1, f0, f1⟩ := (HR4.out.later hb5).two
      have HB5 := hid (below_set2 (bthen HB4.out hb5) (.int .i64 0) (.slice au l.length cu))
      have HO := hid ((ho.mono (base' := w.heap.size + 1) HR4.out.lt).set2 (.int .i64 0) (.slice au l.length cu))
      clear hb5 HR4 HB4 HV4 ho v0 v1 HP HA HM HLo
      go_wp2
      exact bodyPost_ret (v := .agg #[.int .i64 0, .slice au l.length cu]) (by simp [results, Try.results12, go_sem, c0, c1]) rfl ⟨_, rfl, HO.out, HB5.out⟩
  · have H := hid (np_fault hp)
    rw [H.out.1, ← H.out.2]
    generalize pfC xs k = c at *
    go_enter Try.func12, Try.ntmps12
    go_wp2_with fail
    refine (HF.out _ HS0.out).mono ?_
    rintro e w1 ⟨rfl, hb1⟩
    have HR1 := hid ((Blk.new w #[.int .i64 0, .slice none 0 0] 31).later hb1)
    have HB1 := hid (bthen (bmore (Below.refl _ w) _) hb1)
    obtain ⟨c0, c1, f0, f1⟩ := HR1.out.two
    clear hb1 HF HS0 HR1 H
    go_wp2
    exact bodyPost_ret (v := .agg #[.int .i64 c, .slice none 0 0]) (by simp [results, Try.results12, go_sem, c0, c1]) rfl ⟨_, rfl, nil_own _ _, below_set2 HB1.out _ _⟩
end Go.Proofs.Ytpoannaidojmoaa.PulF
