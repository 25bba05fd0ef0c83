/- HalveList, UniteHalves, SpreadBlock, GatherBlock and GatherBounds of the program: what they return at every argument of at most 1048576 numbers. Condition: the table of turns. -/
import Derived.Test.YtgnbailcibhenaaDoorSgI
import Derived.Test.YtgnbailcibhenaaDoorGg
namespace Go.Proofs.YtgnbailcibhenaaDoor.FcI
open Go.ChangeShapes Go.WideShapes Go.ChangeAt Go.RowKit Go.Proofs.YtgnbailcibhenaaDoor.Num Go.Proofs.YtgnbailcibhenaaDoor.Sli Go.Proofs.YtgnbailcibhenaaDoor.App Go.Proofs.YtgnbailcibhenaaDoor.Samp Go.Proofs.YtgnbailcibhenaaDoor.Blk Go.Proofs.YtgnbailcibhenaaDoor.TurM Go.Proofs.YtgnbailcibhenaaDoor.HalM Go.Proofs.YtgnbailcibhenaaDoor.IntL Go.Proofs.YtgnbailcibhenaaDoor.IntA Go.Proofs.YtgnbailcibhenaaDoor.TurI Go.Proofs.YtgnbailcibhenaaDoor.BndM Go.Proofs.YtgnbailcibhenaaDoor.WayM Go.Proofs.YtgnbailcibhenaaDoor.WayJ Go.Proofs.YtgnbailcibhenaaDoor.BkI Go.Proofs.YtgnbailcibhenaaDoor.HvI Go.Proofs.YtgnbailcibhenaaDoor.UnI Go.Proofs.YtgnbailcibhenaaDoor.SgI
open Go.Proofs.YtgnbailcibhenaaDoor.BloS (ow_nil Ow.over grown_set2 grown_set3 sz_len akC ask_sb ask_gb)

/-- What is asked of a list that is a block's. -/
def akI (A M : Int) (l : List Int) : Int := if is3 l.length = true then (if l.all (inB A M) = true then 0 else 3) else 2
theorem blockIn_calls (v : Value) (l : List Int) (A M : Int) (w : World) (h : Sl .i64 w v l) (hm : l.length ≤ 1048576) :
    Calls Tryd.prog 90 #[v, .int .i64 A, .int .i64 M] w fun e w' => e = .returned (.int .i64 (akI A M l)) ∧ w' = w := by
  have HS := hid (implSizeFault_calls (l.length : Int))
  have HA := hid (fun W (hW : Sl .i64 W v l) => areIn_calls v l A M W hW hm)
  have Hs := hid h
  obtain ⟨a, cap, rfl, _⟩ := h
  cases h3 : is3 l.length
  · have hz : szF (l.length : Int) = 3 := by
      rcases sz_03 (l.length : Int) with e | e
      · rw [sz_len.1 e] at h3; cases h3
      · exact e
    have HE : Hid (akI A M l = 2) := by show _ = _; unfold akI; rw [if_neg (by rw [h3]; simp)]
    rw [hz] at HS
    clear hz h3 HA
    go_enter Tryd.func90, Tryd.ntmps90
    go_wp2_with (go_at_call 44; refine (HS.out _).mono ?_; rintro e w' ⟨rfl, rfl⟩)
    go_ret
    exact ⟨by rw [HE.out]; rfl, rfl⟩
  · have hz : szF (l.length : Int) = 0 := sz_len.2 h3
    rw [hz] at HS
    cases ha : l.all (inB A M)
    · have HE : Hid (akI A M l = 3) := by show _ = _; unfold akI; rw [if_pos h3, if_neg (by rw [ha]; simp)]
      rw [ha] at HA
      clear hz h3 ha
      go_enter Tryd.func90, Tryd.ntmps90
      go_wp2_with (first | (go_at_call 44; refine (HS.out _).mono ?_; rintro e w' ⟨rfl, rfl⟩) | (go_at_call 80; refine (HA.out _ Hs.out).mono ?_; rintro e w' ⟨rfl, rfl⟩))
      go_ret
      exact ⟨by rw [HE.out]; rfl, rfl⟩
    · have HE : Hid (akI A M l = 0) := by show _ = _; unfold akI; rw [if_pos h3, if_pos ha]
      rw [ha] at HA
      clear hz h3 ha
      go_enter Tryd.func90, Tryd.ntmps90
      go_wp2_with (first | (go_at_call 44; refine (HS.out _).mono ?_; rintro e w' ⟨rfl, rfl⟩) | (go_at_call 80; refine (HA.out _ Hs.out).mono ?_; rintro e w' ⟨rfl, rfl⟩))
      go_ret
      exact ⟨by rw [HE.out]; rfl, rfl⟩
theorem blockFault_calls (v : Value) (l : List Int) (M : Int) (w : World) (h : Sl .i64 w v l) (hm : l.length ≤ 1048576) (_ : 0 ≤ M) (_ : M ≤ 1000000000) :
    Calls Tryd.prog 90 #[v, .int .i64 (-M), .int .i64 M] w fun e w' => e = .returned (.int .i64 (akC M l)) ∧ w' = w := blockIn_calls v l (-M) M w h hm
set_option maxHeartbeats 1000000 in
theorem implGatherBlock_calls (v : Value) (l : List Int) (w : World) (h : Sl .i64 w v l) (hm : l.length ≤ 1048576) (hT : Tab w) :
    Calls Tryd.prog 55 #[v] w fun e w' => ∃ u, e = .returned (.agg #[.int .i64 (gbC l), u]) ∧ OwI w.heap.size w' u (gbL l) ∧ Below w.heap.size w w' := by
  have HA := hid (fun W (hW : Sl .i64 W v l) => blockFault_calls v l 16777216 W hW hm (by omega) (by omega))
  rw [ask_gb] at HA
  have hb0 := bmore (Below.refl _ w) (.cells #[.int .i64 0, .slice none 0 0] 108)
  have Hs := hid (h.later hb0)
  have HT := hid (hT.later hb0)
  obtain ⟨a, cap, rfl, hc⟩ := h
  by_cases hc0 : gbC l = 0
  · obtain ⟨h3, hlim⟩ := gb_ok hc0
    obtain ⟨e1, e2⟩ := dep_pow (is3_sz h3)
    have hd0 : dep l.length ≠ 0 := by unfold dep; split <;> (try split) <;> (try split) <;> decide
    have HG := hid (fun W wv (hW : Sl .i64 W (.slice a l.length cap) l) (ht : Tab W) (hw : WayV false W wv) => gather_calls false (by first | trivial | rfl) wv (dep l.length) _ l 16777216 W e2 hW e1 (wlim_no hlim) (by rcases is3_sz h3 with e | e | e | e <;> rw [e] <;> decide) ht hw)
    rw [wga_no] at HG
    have HNB := hid numbersBack_calls
    have HL : Hid (gbL l = ga (dep l.length) l) := if_pos hc0
    have Hd0 := hid hd0
    rw [hc0] at HA
    have HC := hid hc0
    clear hc0 h3 hlim e1 e2 hc hT hb0 hd0
    rw [HC.out]
    generalize ga (dep l.length) l = R at *
    go_enter Tryd.func55, Tryd.ntmps55
    go_wp2_with (first | (go_at_call 90; refine (HA.out _ Hs.out).mono ?_; rintro e w' ⟨rfl, rfl⟩) | fail)
    refine (HNB.out _).mono ?_
    rintro e w0 ⟨wv, rfl, hv, hb0⟩
    have HV := hid hv
    have HB0 := hid ((Blk.new w #[.int .i64 0, .slice none 0 0] 108).later hb0)
    have HL0 := hid (bthen (bmore (Below.refl _ w) _) hb0)
    have Hs0 := hid (Hs.out.later hb0)
    have HT0 := hid (HT.out.later hb0)
    clear hv hb0 Hs HT HNB
    go_wp2_with fail
    refine (HG.out _ _ Hs0.out HT0.out HV.out).mono ?_
    rintro e w1 ⟨u, rfl, hsl, ho, hb⟩
    have HB := hid (HB0.out.later hb)
    have HLb := hid (bthen HL0.out hb)
    have HO1 := hid (ho Hd0.out)
    have hz0 := HB0.out.lt
    have hz1 := HL0.out.size
    obtain ⟨au, cu, rfl, _⟩ := hsl
    have HO := hid (App.Ow.mono (Ow.over HO1.out (by omega) (grown_set2 w1 w.heap.size (.int .i64 0) (.slice au R.length cu))) (show w.heap.size ≤ _ by omega))
    obtain ⟨c0, c1, f0, f1⟩ := HB.out.two
    clear ho hb HG HO1
    go_wp2
    exact bodyPost_ret (v := .agg #[.int .i64 0, .slice au R.length cu]) (by simp [results, Tryd.results55, go_sem, c0, c1]) rfl ⟨_, rfl, by rw [HL.out]; exact HO.out, below_cell (below_cell HLb.out (Nat.le_refl _) _ _) (Nat.le_refl _) _ _⟩
  · have HL : Hid (gbL l = []) := if_neg hc0
    have hcb : (gbC l != 0) = true := by simpa using hc0
    clear hc0 hc hT hb0 HT
    generalize gbC l = c at *
    go_enter Tryd.func55, Tryd.ntmps55
    go_wp2_with (first | (go_at_call 90; refine (HA.out _ Hs.out).mono ?_; rintro e w' ⟨rfl, rfl⟩) | fail)
    exact bodyPost_ret (v := .agg #[.int .i64 c, .slice none 0 0]) (by simp [results, Tryd.results55, go_sem]) rfl ⟨_, rfl, by rw [HL.out]; exact ow_nil _ _, bmore (Below.refl _ _) _⟩
end Go.Proofs.YtgnbailcibhenaaDoor.FcI
