/- The model's IndexPulses, PulsesAt, NextPulses. Conditions: lists of at most 1048576 numbers. -/
import Derived.Test.YtpoannaidojmoaaPulU
namespace Go.Proofs.Ytpoannaidojmoaa.PulV
open Go.ChangeShapes Go.WideShapes Go.ChangeAt Go.RowKit Go.Proofs.Ytpoannaidojmoaa.Num Go.Proofs.Ytpoannaidojmoaa.Div Go.Proofs.Ytpoannaidojmoaa.Sli Go.Proofs.Ytpoannaidojmoaa.App Go.Proofs.Ytpoannaidojmoaa.Blk Go.Proofs.Ytpoannaidojmoaa.IntL Go.Proofs.Ytpoannaidojmoaa.IntA Go.Proofs.Ytpoannaidojmoaa.Norm Go.Proofs.Ytpoannaidojmoaa.HalM Go.Proofs.Ytpoannaidojmoaa.PulM Go.Proofs.Ytpoannaidojmoaa.PulS Go.Proofs.Ytpoannaidojmoaa.PulT Go.Proofs.Ytpoannaidojmoaa.PulU

theorem index_as (v : Value) (l : List Int) (k : Int) (w : World) (h : Sl .i64 w v l) (hp : pfC l k = 0) :
    Calls Try.prog 40 #[v, .int .i64 k] w fun e w' => e = .returned (.int .i64 (ixV l k)) ∧ Below w.heap.size w w' := by
  obtain ⟨h1, h4, k0, k8, hn, _⟩ := pf_yes hp
  have := l11Index_calls v l k.toNat w h h4 (by omega) hn
  rw [show ((k.toNat : Nat) : Int) = k by omega] at this
  exact this
theorem at_as (d k i : Int) (w : World) (h : plC d k i = 0) :
    Calls Try.prog 48 #[.int .i64 d, .int .i64 k, .int .i64 i] w fun e w' => ∃ u, e = .returned u ∧ OwI w.heap.size w' u (plL d k i) ∧ Below w.heap.size w w' := by
  obtain ⟨d1, d2, k1, k2, i1, i2, e⟩ := pl_yes h
  unfold ctV at i2
  have := l11At_calls d.toNat k.toNat i.toNat w (by omega) (by omega) (by omega)
  rw [show ((k.toNat : Nat) : Int) = k by omega, show ((d.toNat : Nat) : Int) = d by omega, show ((i.toNat : Nat) : Int) = i by omega, ← e] at this
  exact this
theorem ix_small {l : List Int} {k : Int} (h : pfC l k = 0) : 0 ≤ ixV l k ∧ ixV l k ≤ 100000 := by
  obtain ⟨_, _, g1, g2, g3, _⟩ := pulses_law h
  have : ipV l k = ixV l k := if_pos h
  omega
set_option maxHeartbeats 1000000 in
theorem specIndexPulses_calls (v : Value) (xs : List Int) (k : Int) (w : World) (h : Sl .i64 w v xs) (hm : xs.length ≤ 1048576) :
    Calls Try.prog 25 #[v, .int .i64 k] w fun e w' => e = .returned (.agg #[.int .i64 (pfC xs k), .int .i64 (ipV xs k)]) ∧ Below w.heap.size w w' := by
  have HF := hid (fun W (hW : Sl .i64 W v xs) => specPulsesFault_calls v xs k W hW hm)
  have HSl := hid (fun o => h.later ((Below.refl w.heap.size w).alloc (Nat.le_refl _) o))
  by_cases hp : pfC xs k = 0
  · have HI := hid (fun W (hW : Sl .i64 W v xs) => index_as v xs k W hW hp)
    have H : Hid (0 = pfC xs k ∧ ixV xs k = ipV xs k) := ⟨hp.symm, (if_pos hp).symm⟩
    rw [hp] at HF
    obtain ⟨a, cap, rfl, _⟩ := h
    clear hp
    generalize ixV xs k = iv at *
    go_enter Try.func25, Try.ntmps25
    go_wp2_with (first | (go_at_call 13; refine (HF.out _ (HSl.out _)).mono ?_; rintro e w' ⟨rfl, rfl⟩) | fail)
    refine (HI.out _ (HSl.out _)).mono ?_
    rintro e w1 ⟨rfl, hB⟩
    obtain ⟨c0, c1, f0, f1⟩ := ((Blk.new w #[.int .i64 0, .int .i64 0] 28).later hB).two
    have HB := hid (below_set2 (bthen (bmore (Below.refl w.heap.size w) _) hB) (.int .i64 0) (.int .i64 iv))
    clear hB HI HF
    go_wp2
    exact bodyPost_ret (v := .agg #[.int .i64 0, .int .i64 iv]) (by simp [results, Try.results25, go_sem, c0, c1]) rfl ⟨ret_two H.out.1 H.out.2, HB.out⟩
  · have H : Hid (0 = ipV xs k) := (if_neg hp).symm
    have hb : (pfC xs k != 0) = true := by simpa using hp
    obtain ⟨a, cap, rfl, _⟩ := h
    clear hp
    generalize pfC xs k = c at *
    go_enter Try.func25, Try.ntmps25
    go_wp2_with (go_at_call 13; refine (HF.out _ (HSl.out _)).mono ?_; rintro e w' ⟨rfl, rfl⟩)
    exact bodyPost_ret (v := .agg #[.int .i64 c, .int .i64 0]) (by simp [results, Try.results25, go_sem]) rfl ⟨ret_two rfl H.out, bmore (Below.refl _ _) _⟩
set_option maxHeartbeats 1000000 in
theorem specPulsesAt_calls (d k i : Int) (w : World) :
    Calls Try.prog 18 #[.int .i64 d, .int .i64 k, .int .i64 i] w fun e w' => ∃ u, e = .returned (.agg #[.int .i64 (plC d k i), u]) ∧ OwI w.heap.size w' u (plL d k i) ∧ Below w.heap.size w w' := by
  have HK := hid (l11Ask_calls d k)
  cases hk : cpO d k
  · have ho : plO d k i = false := by unfold plO; rw [hk]; rfl
    have H : Hid (3 = plC d k i ∧ [] = plL d k i) := ⟨(if_neg (by rw [ho]; decide)).symm, (if_neg (by rw [ho]; decide)).symm⟩
    rw [hk] at HK
    clear hk ho
    go_enter Try.func18, Try.ntmps18
    go_wp2_with (go_at_call 46; refine (HK.out _).mono ?_; rintro e w' ⟨rfl, rfl⟩)
    exact bodyPost_ret (v := .agg #[.int .i64 3, .slice none 0 0]) (by simp [results, Try.results18, go_sem]) rfl ⟨_, by rw [← H.out.1], by rw [← H.out.2]; exact World.ownsRow_nil _ _ _ _, bmore (Below.refl _ _) _⟩
  · have hk2 := hk
    unfold cpO at hk2
    simp at hk2
    have a := of_inB hk2.1
    have b := of_inB hk2.2
    have HC := hid (fun W => count_as d.toNat k.toNat (by omega) (by omega) W d k (by omega) (by omega))
    have HV : Hid ((cnt d.toNat k.toNat : Int) = ctV d k) := rfl
    rw [HV.out] at HC
    have hcb : 0 ≤ ctV d k ∧ ctV d k ≤ 100000 := by
      have := (cnt_small d.toNat (by omega) k.toNat (by omega)).1
      unfold ctV; omega
    have HI := hid (l1In_calls i 0 (ctV d k - 1))
    cases hi : inB 0 (ctV d k - 1) i
    · have ho : plO d k i = false := by unfold plO; rw [hk, hi]; rfl
      have H : Hid (3 = plC d k i ∧ [] = plL d k i) := ⟨(if_neg (by rw [ho]; decide)).symm, (if_neg (by rw [ho]; decide)).symm⟩
      rw [hk] at HK
      rw [hi] at HI
      clear hk hi ho hk2 a b HV
      generalize ctV d k = c at *
      go_enter Try.func18, Try.ntmps18
      go_wp2_with (first | (go_at_call 46; refine (HK.out _).mono ?_; rintro e w' ⟨rfl, rfl⟩) | fail)
      refine (HC.out _).mono ?_
      rintro e w1 ⟨rfl, hB⟩
      obtain ⟨c0, c1, f0, f1⟩ := ((Blk.new w #[.int .i64 0, .slice none 0 0] 31).later hB).two
      have HB := hid (below_set2 (bthen (bmore (Below.refl w.heap.size w) _) hB) (.int .i64 3) (.slice none 0 0))
      clear hB HC
      go_wp2_with (go_at_call 35; refine (HI.out _).mono ?_; rintro e w' ⟨rfl, rfl⟩)
      exact bodyPost_ret (v := .agg #[.int .i64 3, .slice none 0 0]) (by simp [results, Try.results18, go_sem, c0, c1]) rfl ⟨_, by rw [← H.out.1], by rw [← H.out.2]; exact World.ownsRow_nil _ _ _ _, HB.out⟩
    · have ho : plO d k i = true := by unfold plO; rw [hk, hi]; rfl
      have hz : plC d k i = 0 := if_pos ho
      have HA := hid (fun W => at_as d k i W hz)
      rw [hz]
      rw [hk] at HK
      rw [hi] at HI
      clear hk hi ho hk2 a b HV hz
      generalize ctV d k = c at *
      generalize plL d k i = l at *
      go_enter Try.func18, Try.ntmps18
      go_wp2_with (first | (go_at_call 46; refine (HK.out _).mono ?_; rintro e w' ⟨rfl, rfl⟩) | fail)
      refine (HC.out _).mono ?_
      rintro e w1 ⟨rfl, hB⟩
      have HZ := hid ((Blk.new w #[.int .i64 0, .slice none 0 0] 31).later hB)
      have HB1 := hid (bthen (bmore (Below.refl w.heap.size w) _) hB)
      have hz1 := HZ.out.lt
      clear hB HC
      go_wp2_with (first | (go_at_call 35; refine (HI.out _).mono ?_; rintro e w' ⟨rfl, rfl⟩) | fail)
      refine (HA.out _).mono ?_
      rintro e w2 ⟨u, rfl, hO, hB⟩
      obtain ⟨au, cu, hu, _⟩ := hO.sl
      subst hu
      obtain ⟨c0, c1, f0, f1⟩ := (HZ.out.later hB).two
      have HB := hid (below_set2 (bthen HB1.out hB) (.int .i64 0) (.slice au l.length cu))
      have hO2 : OwI (w.heap.size + 1) w2 (.slice au l.length cu) l := App.Ow.mono hO (by omega)
      have HO := hid (hO2.set2 (.int .i64 0) (.slice au l.length cu))
      clear hB HA hO hO2 HZ HB1
      go_wp2
      exact bodyPost_ret (v := .agg #[.int .i64 0, .slice au l.length cu]) (by simp [results, Try.results18, go_sem, c0, c1]) rfl ⟨_, rfl, HO.out, HB.out⟩
set_option maxHeartbeats 2000000 in
theorem specNextPulses_calls (v : Value) (xs : List Int) (k : Int) (w : World) (h : Sl .i64 w v xs) (hm : xs.length ≤ 1048576) :
    Calls Try.prog 15 #[v, .int .i64 k] w fun e w' => ∃ u, e = .returned (.agg #[.int .i64 (npC xs k), u]) ∧ OwI w.heap.size w' u (npL xs k) ∧ Below w.heap.size w w' := by
  have HF := hid (fun W (hW : Sl .i64 W v xs) => specPulsesFault_calls v xs k W hW hm)
  have HSl := hid (fun o => h.later ((Below.refl w.heap.size w).alloc (Nat.le_refl _) o))
  by_cases hp : pfC xs k = 0
  · have HI := hid (fun W (hW : Sl .i64 W v xs) => index_as v xs k W hW hp)
    have hib := ix_small hp
    have HP := hid (fun W => specPulsesAt_calls xs.length k (npI xs k) W)
    have HN : Hid (ixV xs k + 1 = npI xs k) := rfl
    rw [← HN.out] at HP
    have hnc : npC xs k = if plC xs.length k (ixV xs k + 1) = 0 then 0 else 4 := if_pos hp
    have hnl : npL xs k = if npC xs k = 0 then plL xs.length k (ixV xs k + 1) else [] := rfl
    have HYes : Hid (plC xs.length k (ixV xs k + 1) = 0 → 0 = npC xs k ∧ plL xs.length k (ixV xs k + 1) = npL xs k) := fun q => by rw [hnl, hnc, if_pos q]; exact ⟨rfl, rfl⟩
    have HNo : Hid (plC xs.length k (ixV xs k + 1) ≠ 0 → 4 = npC xs k ∧ [] = npL xs k) := fun q => by rw [hnl, hnc, if_neg q]; exact ⟨rfl, rfl⟩
    rw [hp] at HF
    obtain ⟨a, cap, rfl, _⟩ := h
    clear hp hnc hnl HN
    generalize ixV xs k = iv at *
    generalize plC xs.length k (iv + 1) = c at *
    generalize plL xs.length k (iv + 1) = l at *
    generalize npC xs k = nc at *
    generalize npL xs k = nl at *
    have hlI : (xs.length : Int) ≤ 1048576 := by omega
    go_enter Try.func15, Try.ntmps15
    go_wp2_with (first | (go_at_call 13; refine (HF.out _ (HSl.out _)).mono ?_; rintro e w' ⟨rfl, rfl⟩) | fail)
    refine (HI.out _ (HSl.out _)).mono ?_
    rintro e w1 ⟨rfl, hB⟩
    have HZ := hid ((Blk.new w #[.int .i64 0, .slice none 0 0] 31).later hB)
    have HB1 := hid (bthen (bmore (Below.refl w.heap.size w) _) hB)
    clear hB HI HF
    go_wp2_with fail
    refine (HP.out _).mono ?_
    rintro e w2 ⟨u, rfl, hO, hB⟩
    obtain ⟨au, cu, hu, _⟩ := hO.sl
    subst hu
    have hbq := bmore hB (.cells #[.int .i64 c, .slice au l.length cu] 31)
    have HZ2 := hid (HZ.out.later hbq)
    have HR2 := hid (Blk.new w2 #[.int .i64 c, .slice au l.length cu] 31)
    have HB2 := hid (bthen HB1.out hbq)
    have HO2 := hid (hO.alloc (.cells #[.int .i64 c, .slice au l.length cu] 31))
    have hz1 := HZ.out.lt
    have hz2 := hB.size
    obtain ⟨c0, c1, f0, f1⟩ := HZ2.out.two
    obtain ⟨r0, r1, _⟩ := HR2.out.two
    have hne : w2.heap.size ≠ w.heap.size := by omega
    clear hB hbq HZ HB1 HP hO
    by_cases hc : c = 0
    · have G := hid (HYes.out hc)
      subst hc
      clear HYes HNo
      have HB := hid (below_set2 HB2.out (.int .i64 0) (.slice au l.length cu))
      have hO3 : OwI (w.heap.size + 1) (w2.alloc (.cells #[.int .i64 0, .slice au l.length cu] 31)) (.slice au l.length cu) l := App.Ow.mono HO2.out (by omega)
      have HO := hid (hO3.set2 (.int .i64 0) (.slice au l.length cu))
      clear hO3 HO2 HB2 HZ2 HR2
      go_wp2
      exact bodyPost_ret (v := .agg #[.int .i64 0, .slice au l.length cu]) (by simp [results, Try.results15, go_sem, c0, c1]) rfl ⟨_, by rw [← G.out.1], by rw [← G.out.2]; exact HO.out, HB.out⟩
    · have G := hid (HNo.out hc)
      clear HYes HNo
      have HB := hid (below_set2 HB2.out (.int .i64 4) (.slice none 0 0))
      have hb : (c != 0) = true := by simpa using hc
      clear HO2 HB2 HZ2 HR2 hc
      go_wp2
      exact bodyPost_ret (v := .agg #[.int .i64 4, .slice none 0 0]) (by simp [results, Try.results15, go_sem, c0, c1]) rfl ⟨_, by rw [← G.out.1], by rw [← G.out.2]; exact World.ownsRow_nil _ _ _ _, HB.out⟩
  · have hnc : npC xs k = pfC xs k := if_neg hp
    have H : Hid (pfC xs k = npC xs k ∧ [] = npL xs k) := ⟨hnc.symm, by unfold npL; rw [hnc, if_neg hp]⟩
    have hb : (pfC xs k != 0) = true := by simpa using hp
    obtain ⟨a, cap, rfl, _⟩ := h
    clear hp hnc
    generalize pfC xs k = c at *
    go_enter Try.func15, Try.ntmps15
    go_wp2_with (go_at_call 13; refine (HF.out _ (HSl.out _)).mono ?_; rintro e w' ⟨rfl, rfl⟩)
    exact bodyPost_ret (v := .agg #[.int .i64 c, .slice none 0 0]) (by simp [results, Try.results15, go_sem]) rfl ⟨_, by rw [H.out.1], by rw [← H.out.2]; exact World.ownsRow_nil _ _ _ _, bmore (Below.refl _ _) _⟩
end Go.Proofs.Ytpoannaidojmoaa.PulV
