/- HalveList, UniteHalves, SpreadBlock, GatherBlock and GatherBounds of the program: what they return at every argument of at most 1048576 numbers. Condition: the table of turns. -/
import Derived.Test.YtmpdkediffpjdaaDoorSgI
import Derived.Test.YtmpdkediffpjdaaDoorGg
namespace Go.Proofs.YtmpdkediffpjdaaDoor.FcI
open Go.ChangeShapes Go.WideShapes Go.ChangeAt Go.RowKit Go.Proofs.YtmpdkediffpjdaaDoor.Num Go.Proofs.YtmpdkediffpjdaaDoor.Sli Go.Proofs.YtmpdkediffpjdaaDoor.App Go.Proofs.YtmpdkediffpjdaaDoor.Samp Go.Proofs.YtmpdkediffpjdaaDoor.Blk Go.Proofs.YtmpdkediffpjdaaDoor.TurM Go.Proofs.YtmpdkediffpjdaaDoor.HalM Go.Proofs.YtmpdkediffpjdaaDoor.IntL Go.Proofs.YtmpdkediffpjdaaDoor.IntA Go.Proofs.YtmpdkediffpjdaaDoor.TurI Go.Proofs.YtmpdkediffpjdaaDoor.BndM Go.Proofs.YtmpdkediffpjdaaDoor.WayM Go.Proofs.YtmpdkediffpjdaaDoor.WayJ Go.Proofs.YtmpdkediffpjdaaDoor.BkI Go.Proofs.YtmpdkediffpjdaaDoor.HvI Go.Proofs.YtmpdkediffpjdaaDoor.UnI Go.Proofs.YtmpdkediffpjdaaDoor.SgI
open Go.Proofs.YtmpdkediffpjdaaDoor.BloS (ow_nil Ow.over grown_set2 grown_set3 sz_len akC ask_sb ask_gb)
open Go.Proofs.YtmpdkediffpjdaaDoor.BloS (apart2 uh_many uh_range uh_yes)

/-- What is asked of a list that is a block's. -/
def akI (A M : Int) (l : List Int) : Int := if is3 l.length = true then (if l.all (inB A M) = true then 0 else 3) else 2
theorem blockIn_calls (v : Value) (l : List Int) (A M : Int) (w : World) (h : Sl .i64 w v l) (hm : l.length ≤ 1048576) :
    Calls Tryd.prog 37 #[v, .int .i64 A, .int .i64 M] w fun e w' => e = .returned (.int .i64 (akI A M l)) ∧ w' = w := by
  have HS := hid (implSizeFault_calls (l.length : Int))
  have HA := hid (fun W (hW : Sl .i64 W v l) => areIn_calls v l A M W hW hm)
  have Hs := hid h
  obtain ⟨a, cap, rfl, _⟩ := h
  cases h3 : is3 l.length
  · have hz : szF (l.length : Int) = 3 := by
      rcases sz_03 (l.length : Int) with e | e
      · rw [sz_len.1 e] at h3; cases h3
      · exact e
    have HE : Hid (akI A M l = 2) := by show _ = _; unfold akI; rw [if_neg (by rw [h3]; simp)]
    rw [hz] at HS
    clear hz h3 HA
    go_enter Tryd.func37, Tryd.ntmps37
    go_wp2_with (go_at_call 53; refine (HS.out _).mono ?_; rintro e w' ⟨rfl, rfl⟩)
    go_ret
    exact ⟨by rw [HE.out]; rfl, rfl⟩
  · have hz : szF (l.length : Int) = 0 := sz_len.2 h3
    rw [hz] at HS
    cases ha : l.all (inB A M)
    · have HE : Hid (akI A M l = 3) := by show _ = _; unfold akI; rw [if_pos h3, if_neg (by rw [ha]; simp)]
      rw [ha] at HA
      clear hz h3 ha
      go_enter Tryd.func37, Tryd.ntmps37
      go_wp2_with (first | (go_at_call 53; refine (HS.out _).mono ?_; rintro e w' ⟨rfl, rfl⟩) | (go_at_call 40; refine (HA.out _ Hs.out).mono ?_; rintro e w' ⟨rfl, rfl⟩))
      go_ret
      exact ⟨by rw [HE.out]; rfl, rfl⟩
    · have HE : Hid (akI A M l = 0) := by show _ = _; unfold akI; rw [if_pos h3, if_pos ha]
      rw [ha] at HA
      clear hz h3 ha
      go_enter Tryd.func37, Tryd.ntmps37
      go_wp2_with (first | (go_at_call 53; refine (HS.out _).mono ?_; rintro e w' ⟨rfl, rfl⟩) | (go_at_call 40; refine (HA.out _ Hs.out).mono ?_; rintro e w' ⟨rfl, rfl⟩))
      go_ret
      exact ⟨by rw [HE.out]; rfl, rfl⟩
theorem blockFault_calls (v : Value) (l : List Int) (M : Int) (w : World) (h : Sl .i64 w v l) (hm : l.length ≤ 1048576) (_ : 0 ≤ M) (_ : M ≤ 1000000000) :
    Calls Tryd.prog 37 #[v, .int .i64 (-M), .int .i64 M] w fun e w' => e = .returned (.int .i64 (akC M l)) ∧ w' = w := blockIn_calls v l (-M) M w h hm
set_option maxHeartbeats 1000000 in
theorem implSpreadBlock_calls (v : Value) (l : List Int) (w : World) (h : Sl .i64 w v l) (hf : Fits v) (hm : l.length ≤ 1048576) (hT : Tab w) :
    Calls Tryd.prog 11 #[v] w fun e w' => ∃ u, e = .returned (.agg #[.int .i64 (sbC l), u]) ∧ OwI w.heap.size w' u (sbL l) ∧ Below w.heap.size w w' := by
  have HA := hid (fun W (hW : Sl .i64 W v l) => blockFault_calls v l 65536 W hW hm (by omega) (by omega))
  rw [ask_sb] at HA
  have hb0 := bmore (Below.refl _ w) (.cells #[.int .i64 0, .slice none 0 0] 27)
  have Hs := hid (h.later hb0)
  have HT := hid (hT.later hb0)
  have HF := hid hf
  obtain ⟨a, cap, rfl, hc⟩ := h
  by_cases hc0 : sbC l = 0
  · obtain ⟨h3, hlim⟩ := sb_ok hc0
    obtain ⟨e1, e2⟩ := dep_pow (is3_sz h3)
    have hd0 : dep l.length ≠ 0 := by unfold dep; split <;> (try split) <;> (try split) <;> decide
    have HG := hid (fun W (hW : Sl .i64 W (.slice a l.length cap) l) (ht : Tab W) => spread_calls (dep l.length) _ l 65536 W e2 hW hf e1 hlim (by rcases is3_sz h3 with e | e | e | e <;> rw [e] <;> decide) ht)
    have HL : Hid (sbL l = sp (dep l.length) l) := if_pos hc0
    have Hd0 := hid hd0
    rw [hc0] at HA
    have HC := hid hc0
    clear hc0 h3 hlim e1 e2 hc hT hf hb0 hd0
    rw [HC.out]
    generalize sp (dep l.length) l = R at *
    go_enter Tryd.func11, Tryd.ntmps11
    go_wp2_with (first | (go_at_call 37; refine (HA.out _ Hs.out).mono ?_; rintro e w' ⟨rfl, rfl⟩) | fail)
    refine (HG.out _ Hs.out HT.out).mono ?_
    rintro e w1 ⟨u, rfl, hsl, ho, hb⟩
    have HB := hid ((Blk.new w #[.int .i64 0, .slice none 0 0] 27).later hb)
    have HLb := hid (bthen (bmore (Below.refl _ w) _) hb)
    have HO1 := hid (ho Hd0.out)
    obtain ⟨au, cu, rfl, _⟩ := hsl
    have HO := hid (App.Ow.mono (Ow.over HO1.out (by simp) (grown_set2 w1 w.heap.size (.int .i64 0) (.slice au R.length cu))) (show w.heap.size ≤ _ by simp))
    obtain ⟨c0, c1, f0, f1⟩ := HB.out.two
    clear ho hb HG HO1
    go_wp2
    exact bodyPost_ret (v := .agg #[.int .i64 0, .slice au R.length cu]) (by simp [results, Tryd.results11, go_sem, c0, c1]) rfl ⟨_, rfl, by rw [HL.out]; exact HO.out, below_cell (below_cell HLb.out (Nat.le_refl _) _ _) (Nat.le_refl _) _ _⟩
  · have HL : Hid (sbL l = []) := if_neg hc0
    have hcb : (sbC l != 0) = true := by simpa using hc0
    clear hc0 hc hT hf hb0 HT HF
    generalize sbC l = c at *
    go_enter Tryd.func11, Tryd.ntmps11
    go_wp2_with (first | (go_at_call 37; refine (HA.out _ Hs.out).mono ?_; rintro e w' ⟨rfl, rfl⟩) | fail)
    exact bodyPost_ret (v := .agg #[.int .i64 c, .slice none 0 0]) (by simp [results, Tryd.results11, go_sem]) rfl ⟨_, rfl, by rw [HL.out]; exact ow_nil _ _, bmore (Below.refl _ _) _⟩
set_option maxHeartbeats 1000000 in
theorem implGatherBlock_calls (v : Value) (l : List Int) (w : World) (h : Sl .i64 w v l) (hm : l.length ≤ 1048576) (hT : Tab w) :
    Calls Tryd.prog 20 #[v] w fun e w' => ∃ u, e = .returned (.agg #[.int .i64 (gbC l), u]) ∧ OwI w.heap.size w' u (gbL l) ∧ Below w.heap.size w w' := by
  have HA := hid (fun W (hW : Sl .i64 W v l) => blockFault_calls v l 16777216 W hW hm (by omega) (by omega))
  rw [ask_gb] at HA
  have hb0 := bmore (Below.refl _ w) (.cells #[.int .i64 0, .slice none 0 0] 27)
  have Hs := hid (h.later hb0)
  have HT := hid (hT.later hb0)
  obtain ⟨a, cap, rfl, hc⟩ := h
  by_cases hc0 : gbC l = 0
  · obtain ⟨h3, hlim⟩ := gb_ok hc0
    obtain ⟨e1, e2⟩ := dep_pow (is3_sz h3)
    have hd0 : dep l.length ≠ 0 := by unfold dep; split <;> (try split) <;> (try split) <;> decide
    have HG := hid (fun W wv (hW : Sl .i64 W (.slice a l.length cap) l) (ht : Tab W) (hw : WayV false W wv) => gather_calls false (by first | trivial | rfl) wv (dep l.length) _ l 16777216 W e2 hW e1 (wlim_no hlim) (by rcases is3_sz h3 with e | e | e | e <;> rw [e] <;> decide) ht hw)
    rw [wga_no] at HG
    have HNB := hid numbersBack_calls
    have HL : Hid (gbL l = ga (dep l.length) l) := if_pos hc0
    have Hd0 := hid hd0
    rw [hc0] at HA
    have HC := hid hc0
    clear hc0 h3 hlim e1 e2 hc hT hb0 hd0
    rw [HC.out]
    generalize ga (dep l.length) l = R at *
    go_enter Tryd.func20, Tryd.ntmps20
    go_wp2_with (first | (go_at_call 37; refine (HA.out _ Hs.out).mono ?_; rintro e w' ⟨rfl, rfl⟩) | fail)
    refine (HNB.out _).mono ?_
    rintro e w0 ⟨wv, rfl, hv, hb0⟩
    have HV := hid hv
    have HB0 := hid ((Blk.new w #[.int .i64 0, .slice none 0 0] 27).later hb0)
    have HL0 := hid (bthen (bmore (Below.refl _ w) _) hb0)
    have Hs0 := hid (Hs.out.later hb0)
    have HT0 := hid (HT.out.later hb0)
    clear hv hb0 Hs HT HNB
    go_wp2_with fail
    refine (HG.out _ _ Hs0.out HT0.out HV.out).mono ?_
    rintro e w1 ⟨u, rfl, hsl, ho, hb⟩
    have HB := hid (HB0.out.later hb)
    have HLb := hid (bthen HL0.out hb)
    have HO1 := hid (ho Hd0.out)
    have hz0 := HB0.out.lt
    have hz1 := HL0.out.size
    obtain ⟨au, cu, rfl, _⟩ := hsl
    have HO := hid (App.Ow.mono (Ow.over HO1.out (by omega) (grown_set2 w1 w.heap.size (.int .i64 0) (.slice au R.length cu))) (show w.heap.size ≤ _ by omega))
    obtain ⟨c0, c1, f0, f1⟩ := HB.out.two
    clear ho hb HG HO1
    go_wp2
    exact bodyPost_ret (v := .agg #[.int .i64 0, .slice au R.length cu]) (by simp [results, Tryd.results20, go_sem, c0, c1]) rfl ⟨_, rfl, by rw [HL.out]; exact HO.out, below_cell (below_cell HLb.out (Nat.le_refl _) _ _) (Nat.le_refl _) _ _⟩
  · have HL : Hid (gbL l = []) := if_neg hc0
    have hcb : (gbC l != 0) = true := by simpa using hc0
    clear hc0 hc hT hb0 HT
    generalize gbC l = c at *
    go_enter Tryd.func20, Tryd.ntmps20
    go_wp2_with (first | (go_at_call 37; refine (HA.out _ Hs.out).mono ?_; rintro e w' ⟨rfl, rfl⟩) | fail)
    exact bodyPost_ret (v := .agg #[.int .i64 c, .slice none 0 0]) (by simp [results, Tryd.results20, go_sem]) rfl ⟨_, rfl, by rw [HL.out]; exact ow_nil _ _, bmore (Below.refl _ _) _⟩
set_option maxHeartbeats 2000000 in
theorem implHalveList_calls (v : Value) (l : List Int) (w : World) (h : Sl .i64 w v l) (hf : Fits v) (hm : l.length ≤ 1048576) (hT : Tab w) :
    Calls Tryd.prog 13 #[v] w fun e w' => ∃ u t, e = .returned (.agg #[.int .i64 (hvC l), u, t]) ∧ OwI w.heap.size w' u (hvS l) ∧ OwI w.heap.size w' t (hvD l) ∧ apart2 u t ∧ Below w.heap.size w w' := by
  have HA := hid (fun W (hW : Sl .i64 W v l) => areWithin_calls v l 1073741824 W hW hm (by omega) (by omega))
  have HB4 := hid (fun W => canBeHalved_calls l.length W (by omega))
  have hb0 := bmore (Below.refl _ w) (.cells #[.int .i64 0, .slice none 0 0, .slice none 0 0] 30)
  have Hs := hid (h.later hb0)
  have HT := hid (hT.later hb0)
  have HN : Hid (∀ (W : World) (g : Int), hvS l = [] → hvD l = [] → hvC l = g → Below w.heap.size w W → ∃ u t, Ending.returned (.agg #[.int .i64 g, .slice none 0 0, .slice none 0 0]) = .returned (.agg #[.int .i64 (hvC l), u, t]) ∧ OwI w.heap.size W u (hvS l) ∧ OwI w.heap.size W t (hvD l) ∧ apart2 u t ∧ Below w.heap.size w W) :=
    fun W g h1 h2 h3 h4 => ⟨_, _, by rw [h3], by rw [h1]; exact ow_nil _ _, by rw [h2]; exact ow_nil _ _, (fun _ e => by cases e), h4⟩
  obtain ⟨a, cap, rfl, _⟩ := h
  cases h4 : is4 l.length
  · have hC : hvC l = 2 := by unfold hvC; rw [if_neg (by rw [h4]; simp)]
    have HE := hid (HN.out _ 2 (if_neg (by rw [hC]; decide)) (if_neg (by rw [hC]; decide)) hC (bmore (Below.refl _ w) (.cells #[.int .i64 2, .slice none 0 0, .slice none 0 0] 30)))
    rw [h4] at HB4
    clear h4 HA HN hC hT hf hb0
    go_enter Tryd.func13, Tryd.ntmps13
    go_wp2_with (go_at_call 39; refine (HB4.out _).mono ?_; rintro e w' ⟨rfl, rfl⟩)
    exact bodyPost_ret (v := .agg #[.int .i64 2, .slice none 0 0, .slice none 0 0]) (by simp [results, Tryd.results13, go_sem]) rfl HE.out
  · have hsz := is4_sz h4
    rw [h4] at HB4
    cases ha : l.all (inB (-1073741824) 1073741824)
    · have hC : hvC l = 3 := by unfold hvC hdB; rw [if_pos h4, if_neg (by rw [show (l.all fun v => inB (-1073741824) 1073741824 v) = false from ha]; simp)]
      have HE := hid (HN.out _ 3 (if_neg (by rw [hC]; decide)) (if_neg (by rw [hC]; decide)) hC (bmore (Below.refl _ w) (.cells #[.int .i64 3, .slice none 0 0, .slice none 0 0] 30)))
      rw [ha] at HA
      clear ha h4 HN hC hT hf hb0 hsz
      go_enter Tryd.func13, Tryd.ntmps13
      go_wp2_with (first | (go_at_call 39; refine (HB4.out _).mono ?_; rintro e w' ⟨rfl, rfl⟩) | (go_at_call 40; refine (HA.out _ Hs.out).mono ?_; rintro e w' ⟨rfl, rfl⟩))
      exact bodyPost_ret (v := .agg #[.int .i64 3, .slice none 0 0, .slice none 0 0]) (by simp [results, Tryd.results13, go_sem]) rfl HE.out
    · have hC : hvC l = 0 := by unfold hvC hdB; rw [if_pos h4, if_pos (show (l.all fun v => inB (-1073741824) 1073741824 v) = true from ha)]
      have HH := hid (fun W (hW : Sl .i64 W (.slice a l.length cap) l) (ht : Tab W) => halve_calls _ l W hW hf hsz ((hv_ok hC).2.mono (by omega)) ht)
      have ES : Hid (hvS l = hS l) := if_pos hC
      have ED : Hid (hvD l = hD l) := if_pos hC
      have HlS := hid (hS_len l)
      have HlD := hid (hD_len l)
      have hm8 : l.length / 2 ≤ 8 := by unfold sz4 at hsz; omega
      rw [ha] at HA
      rw [hC]
      clear ha h4 HN hC hT hf hb0 hsz
      generalize l.length / 2 = m at *
      generalize l.length = n at *
      go_enter Tryd.func13, Tryd.ntmps13
      go_wp2_with (first | (go_at_call 39; refine (HB4.out _).mono ?_; rintro e w' ⟨rfl, rfl⟩) | (go_at_call 40; refine (HA.out _ Hs.out).mono ?_; rintro e w' ⟨rfl, rfl⟩) | fail)
      refine (HH.out _ Hs.out HT.out).mono ?_
      rintro e w1 ⟨gs, gd, rfl, hk⟩
      have HB := hid ((Blk.new w #[.int .i64 0, .slice none 0 0, .slice none 0 0] 30).later hk.b)
      have HLb := hid (bthen (bmore (Below.refl _ w) _) hk.b)
      have hOs := hk.s.ow hk.ls (by rw [HlS.out]; omega)
      have hOd := hk.d.ow hk.ld (by rw [HlD.out]; omega)
      rw [HlS.out] at hOs
      rw [HlD.out] at hOd
      have HTs := hid (App.Ow.mono (Ow.over hOs (by simp) (grown_set3 w1 w.heap.size (.int .i64 0) (.slice (some ⟨gs, 0, none⟩) m m) (.slice (some ⟨gd, 0, none⟩) m m))) (show w.heap.size ≤ _ by simp))
      have HTd := hid (App.Ow.mono (Ow.over hOd (by simp) (grown_set3 w1 w.heap.size (.int .i64 0) (.slice (some ⟨gs, 0, none⟩) m m) (.slice (some ⟨gd, 0, none⟩) m m))) (show w.heap.size ≤ _ by simp))
      have hne := hk.ne
      obtain ⟨c0, c1, c2, f0, f1, f2⟩ := HB.out.three
      clear hk HH HA hOs hOd
      go_wp2
      exact bodyPost_ret (v := .agg #[.int .i64 0, .slice (some ⟨gs, 0, none⟩) m m, .slice (some ⟨gd, 0, none⟩) m m]) (by simp [results, Tryd.results13, go_sem, c0, c1, c2]) rfl
        ⟨_, _, rfl, by rw [ES.out]; exact HTs.out, by rw [ED.out]; exact HTd.out, fun g e => by simp [Value.ownBlock] at e ⊢; omega, below_cell (below_cell (below_cell HLb.out (Nat.le_refl _) _ _) (Nat.le_refl _) _ _) (Nat.le_refl _) _ _⟩
set_option maxHeartbeats 2000000 in
theorem implUniteHalves_calls (vs vd : Value) (s d : List Int) (w : World) (hs : Sl .i64 w vs s) (hd : Sl .i64 w vd d) (hm : s.length ≤ 1048576) (hm2 : d.length ≤ 1048576) (hT : Tab w) :
    Calls Tryd.prog 16 #[vs, vd] w fun e w' => ∃ u, e = .returned (.agg #[.int .i64 (uhC s d), u]) ∧ OwI w.heap.size w' u (uhL s d) ∧ Below w.heap.size w w' := by
  have HAs := hid (fun W (hW : Sl .i64 W vs s) => areWithin_calls vs s 1073741824 W hW hm (by omega) (by omega))
  have HAd := hid (fun W (hW : Sl .i64 W vd d) => areWithin_calls vd d 1073741824 W hW hm2 (by omega) (by omega))
  have hcast : (((2 * s.length : Nat) : Int)) = 2 * (s.length : Int) := by omega
  have HB4 := hid (fun W => canBeHalved_calls (2 * s.length) W (by omega))
  rw [hcast] at HB4
  have hb0 := bmore (Below.refl _ w) (.cells #[.int .i64 0, .slice none 0 0] 27)
  have Hs := hid (hs.later hb0)
  have Hd := hid (hd.later hb0)
  have HT := hid (hT.later hb0)
  have HN : Hid (∀ (W : World) (g : Int), g ≠ 0 → uhC s d = g → Below w.heap.size w W → ∃ u, Ending.returned (.agg #[.int .i64 g, .slice none 0 0]) = .returned (.agg #[.int .i64 (uhC s d), u]) ∧ OwI w.heap.size W u (uhL s d) ∧ Below w.heap.size w W) :=
    fun W g h1 h3 h4 => ⟨_, by rw [h3], by rw [show uhL s d = [] from if_neg (by rw [h3]; exact h1)]; exact ow_nil _ _, h4⟩
  obtain ⟨a, cap, rfl, _⟩ := hs
  obtain ⟨a2, cap2, rfl, _⟩ := hd
  clear hcast hT hb0
  cases h4 : is4 (2 * s.length)
  · have HE := hid (HN.out _ 2 (by decide) (uh_many (by rw [h4]; simp)) (bmore (Below.refl _ w) (.cells #[.int .i64 2, .slice none 0 0] 27)))
    rw [h4] at HB4
    clear h4 HAs HAd HN
    go_enter Tryd.func16, Tryd.ntmps16
    go_wp2_with (go_at_call 39; refine (HB4.out _).mono ?_; rintro e w' ⟨rfl, rfl⟩)
    exact bodyPost_ret (v := .agg #[.int .i64 2, .slice none 0 0]) (by simp [results, Tryd.results16, go_sem]) rfl HE.out
  · have hsz := is4_sz h4
    rw [h4] at HB4
    by_cases hl : d.length = s.length
    · cases has : s.all (inB (-1073741824) 1073741824)
      · have HE := hid (HN.out _ 3 (by decide) (uh_range ⟨h4, hl⟩ (by rw [show s.all hdB = false from has]; simp)) (bmore (Below.refl _ w) (.cells #[.int .i64 3, .slice none 0 0] 27)))
        rw [has] at HAs
        rw [hl]
        clear has h4 HN hsz HAd Hd hl
        go_enter Tryd.func16, Tryd.ntmps16
        go_wp2_with (first | (go_at_call 39; refine (HB4.out _).mono ?_; rintro e w' ⟨rfl, rfl⟩) | (go_at_call 40; refine (HAs.out _ Hs.out).mono ?_; rintro e w' ⟨rfl, rfl⟩))
        exact bodyPost_ret (v := .agg #[.int .i64 3, .slice none 0 0]) (by simp [results, Tryd.results16, go_sem]) rfl HE.out
      · rw [has] at HAs
        cases had : d.all (inB (-1073741824) 1073741824)
        · have HE := hid (HN.out _ 3 (by decide) (uh_range ⟨h4, hl⟩ (by rw [show d.all hdB = false from had]; simp)) (bmore (Below.refl _ w) (.cells #[.int .i64 3, .slice none 0 0] 27)))
          rw [had] at HAd
          rw [hl] at HAd Hd ⊢
          clear has had h4 HN hsz hl
          go_enter Tryd.func16, Tryd.ntmps16
          go_wp2_with (go_at_call 39; refine (HB4.out _).mono ?_; rintro e w' ⟨rfl, rfl⟩)
          refine (HAs.out _ Hs.out).mono ?_
          rintro e w' ⟨rfl, rfl⟩
          go_wp2_with fail
          refine (HAd.out _ Hd.out).mono ?_
          rintro e w' ⟨rfl, rfl⟩
          go_wp2
          exact bodyPost_ret (v := .agg #[.int .i64 3, .slice none 0 0]) (by simp [results, Tryd.results16, go_sem]) rfl HE.out
        · have hC := uh_yes ⟨h4, hl⟩ ⟨(show s.all hdB = true from has), (show d.all hdB = true from had)⟩
          obtain ⟨_, _, l1, l2⟩ := uh_ok hC
          have HU := hid (fun W wv (hW : Sl .i64 W (.slice a s.length cap) s) (hW2 : Sl .i64 W (.slice a2 d.length cap2) d) (ht : Tab W) (hw : WayV false W wv) => unite_calls false (by first | trivial | rfl) wv _ _ s d W hW hW2 hsz hl (wlim_no (l1.mono (by omega))) (wlim_no (l2.mono (by omega))) ht hw)
          rw [wun_no] at HU
          have HNB := hid numbersBack_calls
          have EL : Hid (uhL s d = un s d) := if_pos hC
          have HUl := hid (un_len s d)
          have hq16 : 2 * s.length ≤ 16 := by unfold sz4 at hsz; omega
          rw [had] at HAd
          rw [hl] at HAd Hd HU ⊢
          rw [hC]
          clear has had h4 HN hsz hl hC l1 l2
          generalize un s d = R at *
          generalize 2 * s.length = q at *
          generalize s.length = n at *
          go_enter Tryd.func16, Tryd.ntmps16
          go_wp2_with (go_at_call 39; refine (HB4.out _).mono ?_; rintro e w' ⟨rfl, rfl⟩)
          refine (HAs.out _ Hs.out).mono ?_
          rintro e w' ⟨rfl, rfl⟩
          go_wp2_with fail
          refine (HAd.out _ Hd.out).mono ?_
          rintro e w' ⟨rfl, rfl⟩
          go_wp2_with fail
          refine (HNB.out _).mono ?_
          rintro e w0 ⟨wv, rfl, hv, hb0⟩
          have HV := hid hv
          have HB0 := hid ((Blk.new w #[.int .i64 0, .slice none 0 0] 27).later hb0)
          have HL0 := hid (bthen (bmore (Below.refl _ w) _) hb0)
          have Hs0 := hid (Hs.out.later hb0)
          have Hd0 := hid (Hd.out.later hb0)
          have HT0 := hid (HT.out.later hb0)
          clear hv hb0 Hs Hd HT HNB
          go_wp2_with fail
          refine (HU.out _ _ Hs0.out Hd0.out HT0.out HV.out).mono ?_
          rintro e w1 ⟨g, rfl, hu⟩
          have ho := hu.b.ow hu.l (by rw [HUl.out]; omega)
          have hz0 := HB0.out.lt
          have hz1 := HL0.out.size
          rw [HUl.out] at ho
          have HB := hid (HB0.out.later hu.k)
          have HLb := hid (bthen HL0.out hu.k)
          have HO := hid (App.Ow.mono (Ow.over ho (by omega) (grown_set2 w1 w.heap.size (.int .i64 0) (.slice (some ⟨g, 0, none⟩) q q))) (show w.heap.size ≤ _ by omega))
          obtain ⟨c0, c1, f0, f1⟩ := HB.out.two
          clear ho hu HU HAs HAd
          go_wp2
          exact bodyPost_ret (v := .agg #[.int .i64 0, .slice (some ⟨g, 0, none⟩) q q]) (by simp [results, Tryd.results16, go_sem, c0, c1]) rfl ⟨_, rfl, by rw [EL.out]; exact HO.out, below_cell (below_cell HLb.out (Nat.le_refl _) _ _) (Nat.le_refl _) _ _⟩
    · have HE := hid (HN.out _ 2 (by decide) (uh_many (fun h => hl h.2)) (bmore (Below.refl _ w) (.cells #[.int .i64 2, .slice none 0 0] 27)))
      have hdn : ((d.length : Int) != (s.length : Int)) = true := by simp; omega
      clear hl h4 HAs HAd HN hsz Hs Hd
      go_enter Tryd.func16, Tryd.ntmps16
      go_wp2_with (go_at_call 39; refine (HB4.out _).mono ?_; rintro e w' ⟨rfl, rfl⟩)
      exact bodyPost_ret (v := .agg #[.int .i64 2, .slice none 0 0]) (by simp [results, Tryd.results16, go_sem]) rfl HE.out
end Go.Proofs.YtmpdkediffpjdaaDoor.FcI
