/- HalveList, UniteHalves, SpreadBlock, GatherBlock and GatherBounds of the program: what they return at every argument of at most 1048576 numbers. Condition: the table of turns. -/
import Derived.Test.YtbakmphopgkpmaaDoorSgI
import Derived.Test.YtbakmphopgkpmaaDoorGg
namespace Go.Proofs.YtbakmphopgkpmaaDoor.FcI
open Go.ChangeShapes Go.WideShapes Go.ChangeAt Go.RowKit Go.Proofs.YtbakmphopgkpmaaDoor.Num Go.Proofs.YtbakmphopgkpmaaDoor.Sli Go.Proofs.YtbakmphopgkpmaaDoor.App Go.Proofs.YtbakmphopgkpmaaDoor.Samp Go.Proofs.YtbakmphopgkpmaaDoor.Blk Go.Proofs.YtbakmphopgkpmaaDoor.TurM Go.Proofs.YtbakmphopgkpmaaDoor.HalM Go.Proofs.YtbakmphopgkpmaaDoor.IntL Go.Proofs.YtbakmphopgkpmaaDoor.IntA Go.Proofs.YtbakmphopgkpmaaDoor.TurI Go.Proofs.YtbakmphopgkpmaaDoor.BndM Go.Proofs.YtbakmphopgkpmaaDoor.WayM Go.Proofs.YtbakmphopgkpmaaDoor.WayJ Go.Proofs.YtbakmphopgkpmaaDoor.BkI Go.Proofs.YtbakmphopgkpmaaDoor.HvI Go.Proofs.YtbakmphopgkpmaaDoor.UnI Go.Proofs.YtbakmphopgkpmaaDoor.SgI
open Go.Proofs.YtbakmphopgkpmaaDoor.BloS (ow_nil Ow.over grown_set2 grown_set3 sz_len akC ask_sb ask_gb)

/-- What is asked of a list that is a block's. -/
def akI (A M : Int) (l : List Int) : Int := if is3 l.length = true then (if l.all (inB A M) = true then 0 else 3) else 2
theorem blockIn_calls (v : Value) (l : List Int) (A M : Int) (w : World) (h : Sl .i64 w v l) (hm : l.length ≤ 1048576) :
    Calls Tryd.prog 66 #[v, .int .i64 A, .int .i64 M] w fun e w' => e = .returned (.int .i64 (akI A M l)) ∧ w' = w := by
  have HS := hid (implSizeFault_calls (l.length : Int))
  have HA := hid (fun W (hW : Sl .i64 W v l) => areIn_calls v l A M W hW hm)
  have Hs := hid h
  obtain ⟨a, cap, rfl, _⟩ := h
  cases h3 : is3 l.length
  · have hz : szF (l.length : Int) = 3 := by
      rcases sz_03 (l.length : Int) with e | e
      · rw [sz_len.1 e] at h3; cases h3
      · exact e
    have HE : Hid (akI A M l = 2) := by show _ = _; unfold akI; rw [if_neg (by rw [h3]; simp)]
    rw [hz] at HS
    clear hz h3 HA
    go_enter Tryd.func66, Tryd.ntmps66
    go_wp2_with (go_at_call 83; refine (HS.out _).mono ?_; rintro e w' ⟨rfl, rfl⟩)
    go_ret
    exact ⟨by rw [HE.out]; rfl, rfl⟩
  · have hz : szF (l.length : Int) = 0 := sz_len.2 h3
    rw [hz] at HS
    cases ha : l.all (inB A M)
    · have HE : Hid (akI A M l = 3) := by show _ = _; unfold akI; rw [if_pos h3, if_neg (by rw [ha]; simp)]
      rw [ha] at HA
      clear hz h3 ha
      go_enter Tryd.func66, Tryd.ntmps66
      go_wp2_with (first | (go_at_call 83; refine (HS.out _).mono ?_; rintro e w' ⟨rfl, rfl⟩) | (go_at_call 73; refine (HA.out _ Hs.out).mono ?_; rintro e w' ⟨rfl, rfl⟩))
      go_ret
      exact ⟨by rw [HE.out]; rfl, rfl⟩
    · have HE : Hid (akI A M l = 0) := by show _ = _; unfold akI; rw [if_pos h3, if_pos ha]
      rw [ha] at HA
      clear hz h3 ha
      go_enter Tryd.func66, Tryd.ntmps66
      go_wp2_with (first | (go_at_call 83; refine (HS.out _).mono ?_; rintro e w' ⟨rfl, rfl⟩) | (go_at_call 73; refine (HA.out _ Hs.out).mono ?_; rintro e w' ⟨rfl, rfl⟩))
      go_ret
      exact ⟨by rw [HE.out]; rfl, rfl⟩
theorem blockFault_calls (v : Value) (l : List Int) (M : Int) (w : World) (h : Sl .i64 w v l) (hm : l.length ≤ 1048576) (_ : 0 ≤ M) (_ : M ≤ 1000000000) :
    Calls Tryd.prog 66 #[v, .int .i64 (-M), .int .i64 M] w fun e w' => e = .returned (.int .i64 (akC M l)) ∧ w' = w := blockIn_calls v l (-M) M w h hm
set_option maxHeartbeats 1000000 in
theorem implGatherBlock_calls (v : Value) (l : List Int) (w : World) (h : Sl .i64 w v l) (hm : l.length ≤ 1048576) (hT : Tab w) :
    Calls Tryd.prog 24 #[v] w fun e w' => ∃ u, e = .returned (.agg #[.int .i64 (gbC l), u]) ∧ OwI w.heap.size w' u (gbL l) ∧ Below w.heap.size w w' := by
  have HA := hid (fun W (hW : Sl .i64 W v l) => blockFault_calls v l 16777216 W hW hm (by omega) (by omega))
  rw [ask_gb] at HA
  have hb0 := bmore (Below.refl _ w) (.cells #[.int .i64 0, .slice none 0 0] 35)
  have Hs := hid (h.later hb0)
  have HT := hid (hT.later hb0)
  obtain ⟨a, cap, rfl, hc⟩ := h
  by_cases hc0 : gbC l = 0
  · obtain ⟨h3, hlim⟩ := gb_ok hc0
    obtain ⟨e1, e2⟩ := dep_pow (is3_sz h3)
    have hd0 : dep l.length ≠ 0 := by unfold dep; split <;> (try split) <;> (try split) <;> decide
    have HG := hid (fun W wv (hW : Sl .i64 W (.slice a l.length cap) l) (ht : Tab W) (hw : WayV false W wv) => gather_calls false (by first | trivial | rfl) wv (dep l.length) _ l 16777216 W e2 hW e1 (wlim_no hlim) (by rcases is3_sz h3 with e | e | e | e <;> rw [e] <;> decide) ht hw)
    rw [wga_no] at HG
    have HNB := hid numbersBack_calls
    have HL : Hid (gbL l = ga (dep l.length) l) := if_pos hc0
    have Hd0 := hid hd0
    rw [hc0] at HA
    have HC := hid hc0
    clear hc0 h3 hlim e1 e2 hc hT hb0 hd0
    rw [HC.out]
    generalize ga (dep l.length) l = R at *
    go_enter Tryd.func24, Tryd.ntmps24
    go_wp2_with (first | (go_at_call 66; refine (HA.out _ Hs.out).mono ?_; rintro e w' ⟨rfl, rfl⟩) | fail)
    refine (HNB.out _).mono ?_
    rintro e w0 ⟨wv, rfl, hv, hb0⟩
    have HV := hid hv
    have HB0 := hid ((Blk.new w #[.int .i64 0, .slice none 0 0] 35).later hb0)
    have HL0 := hid (bthen (bmore (Below.refl _ w) _) hb0)
    have Hs0 := hid (Hs.out.later hb0)
    have HT0 := hid (HT.out.later hb0)
    clear hv hb0 Hs HT HNB
    go_wp2_with fail
    refine (HG.out _ _ Hs0.out HT0.out HV.out).mono ?_
    rintro e w1 ⟨u, rfl, hsl, ho, hb⟩
    have HB := hid (HB0.out.later hb)
    have HLb := hid (bthen HL0.out hb)
    have HO1 := hid (ho Hd0.out)
    have hz0 := HB0.out.lt
    have hz1 := HL0.out.size
    obtain ⟨au, cu, rfl, _⟩ := hsl
    have HO := hid (App.Ow.mono (Ow.over HO1.out (by omega) (grown_set2 w1 w.heap.size (.int .i64 0) (.slice au R.length cu))) (show w.heap.size ≤ _ by omega))
    obtain ⟨c0, c1, f0, f1⟩ := HB.out.two
    clear ho hb HG HO1
    go_wp2
    exact bodyPost_ret (v := .agg #[.int .i64 0, .slice au R.length cu]) (by simp [results, Tryd.results24, go_sem, c0, c1]) rfl ⟨_, rfl, by rw [HL.out]; exact HO.out, below_cell (below_cell HLb.out (Nat.le_refl _) _ _) (Nat.le_refl _) _ _⟩
  · have HL : Hid (gbL l = []) := if_neg hc0
    have hcb : (gbC l != 0) = true := by simpa using hc0
    clear hc0 hc hT hb0 HT
    generalize gbC l = c at *
    go_enter Tryd.func24, Tryd.ntmps24
    go_wp2_with (first | (go_at_call 66; refine (HA.out _ Hs.out).mono ?_; rintro e w' ⟨rfl, rfl⟩) | fail)
    exact bodyPost_ret (v := .agg #[.int .i64 c, .slice none 0 0]) (by simp [results, Tryd.results24, go_sem]) rfl ⟨_, rfl, by rw [HL.out]; exact ow_nil _ _, bmore (Below.refl _ _) _⟩
theorem gbd_ok {l : List Int} (h : gbdC l = 0) : is3 l.length = true ∧ wlim true 67108864 l := by
  unfold gbdC at h
  split at h
  · rename_i h3
    split at h
    · rename_i ha
      refine ⟨h3, wlim_yes (fun i => ?_)⟩
      by_cases hi : i < l.length
      · rw [List.getD_eq_getElem?_getD, List.getElem?_eq_getElem hi, Option.getD_some]
        exact of_inB (List.all_eq_true.1 ha _ (List.getElem_mem hi))
      · rw [List.getD_eq_getElem?_getD, List.getElem?_eq_none (by omega), Option.getD_none]; omega
    · cases h
  · cases h
set_option maxHeartbeats 1000000 in
theorem implGatherBounds_calls (v : Value) (l : List Int) (w : World) (h : Sl .i64 w v l) (hm : l.length ≤ 1048576) (hT : Tab w) :
    Calls Tryd.prog 22 #[v] w fun e w' => ∃ u, e = .returned (.agg #[.int .i64 (gbdC l), u]) ∧ OwI w.heap.size w' u (gbdL l) ∧ Below w.heap.size w w' := by
  have HA := hid (fun W (hW : Sl .i64 W v l) => blockIn_calls v l 0 67108864 W hW hm)
  rw [show akI 0 67108864 l = gbdC l from rfl] at HA
  have hb0 := bmore (Below.refl _ w) (.cells #[.int .i64 0, .slice none 0 0] 35)
  have Hs := hid (h.later hb0)
  have HT := hid (hT.later hb0)
  obtain ⟨a, cap, rfl, hc⟩ := h
  by_cases hc0 : gbdC l = 0
  · obtain ⟨h3, hlim⟩ := gbd_ok hc0
    obtain ⟨e1, e2⟩ := dep_pow (is3_sz h3)
    have hd0 : dep l.length ≠ 0 := by unfold dep; split <;> (try split) <;> (try split) <;> decide
    have HG := hid (fun W wv (hW : Sl .i64 W (.slice a l.length cap) l) (ht : Tab W) (hw : WayV true W wv) => gather_calls true (by first | trivial | rfl) wv (dep l.length) _ l 67108864 W e2 hW e1 hlim (by rcases is3_sz h3 with e | e | e | e <;> rw [e] <;> decide) ht hw)
    rw [wga_yes] at HG
    have HNB := hid boundsBack_calls
    have HL : Hid (gbdL l = gaB (dep l.length) l) := if_pos hc0
    have Hd0 := hid hd0
    rw [hc0] at HA
    have HC := hid hc0
    clear hc0 h3 hlim e1 e2 hc hT hb0 hd0
    rw [HC.out]
    generalize gaB (dep l.length) l = R at *
    go_enter Tryd.func22, Tryd.ntmps22
    go_wp2_with (first | (go_at_call 66; refine (HA.out _ Hs.out).mono ?_; rintro e w' ⟨rfl, rfl⟩) | fail)
    refine (HNB.out _).mono ?_
    rintro e w0 ⟨wv, rfl, hv, hb0⟩
    have HV := hid hv
    have HB0 := hid ((Blk.new w #[.int .i64 0, .slice none 0 0] 35).later hb0)
    have HL0 := hid (bthen (bmore (Below.refl _ w) _) hb0)
    have Hs0 := hid (Hs.out.later hb0)
    have HT0 := hid (HT.out.later hb0)
    clear hv hb0 Hs HT HNB
    go_wp2_with fail
    refine (HG.out _ _ Hs0.out HT0.out HV.out).mono ?_
    rintro e w1 ⟨u, rfl, hsl, ho, hb⟩
    have HB := hid (HB0.out.later hb)
    have HLb := hid (bthen HL0.out hb)
    have HO1 := hid (ho Hd0.out)
    have hz0 := HB0.out.lt
    have hz1 := HL0.out.size
    obtain ⟨au, cu, rfl, _⟩ := hsl
    have HO := hid (App.Ow.mono (Ow.over HO1.out (by omega) (grown_set2 w1 w.heap.size (.int .i64 0) (.slice au R.length cu))) (show w.heap.size ≤ _ by omega))
    obtain ⟨c0, c1, f0, f1⟩ := HB.out.two
    clear ho hb HG HO1
    go_wp2
    exact bodyPost_ret (v := .agg #[.int .i64 0, .slice au R.length cu]) (by simp [results, Tryd.results22, go_sem, c0, c1]) rfl ⟨_, rfl, by rw [HL.out]; exact HO.out, below_cell (below_cell HLb.out (Nat.le_refl _) _ _) (Nat.le_refl _) _ _⟩
  · have HL : Hid (gbdL l = []) := if_neg hc0
    have hcb : (gbdC l != 0) = true := by simpa using hc0
    clear hc0 hc hT hb0 HT
    generalize gbdC l = c at *
    go_enter Tryd.func22, Tryd.ntmps22
    go_wp2_with (first | (go_at_call 66; refine (HA.out _ Hs.out).mono ?_; rintro e w' ⟨rfl, rfl⟩) | fail)
    exact bodyPost_ret (v := .agg #[.int .i64 c, .slice none 0 0]) (by simp [results, Tryd.results22, go_sem]) rfl ⟨_, rfl, by rw [HL.out]; exact ow_nil _ _, bmore (Below.refl _ _) _⟩
end Go.Proofs.YtbakmphopgkpmaaDoor.FcI
