/- HalveList, UniteHalves, SpreadBlock and GatherBlock of the model: what they return at every argument of at most 1048576 numbers. -/
import Derived.Test.YtmkpfofjeefaoaaDoorSprS
import Derived.Test.YtmkpfofjeefaoaaDoorGatS
import Derived.Test.YtmkpfofjeefaoaaDoorBlk
namespace Go.Proofs.YtmkpfofjeefaoaaDoor.BloS
open Go.ChangeShapes Go.WideShapes Go.ChangeAt Go.RowKit Go.Proofs.YtmkpfofjeefaoaaDoor.Num Go.Proofs.YtmkpfofjeefaoaaDoor.Sli Go.Proofs.YtmkpfofjeefaoaaDoor.App Go.Proofs.YtmkpfofjeefaoaaDoor.Div Go.Proofs.YtmkpfofjeefaoaaDoor.Samp Go.Proofs.YtmkpfofjeefaoaaDoor.Blk Go.Proofs.YtmkpfofjeefaoaaDoor.TurM Go.Proofs.YtmkpfofjeefaoaaDoor.HalM Go.Proofs.YtmkpfofjeefaoaaDoor.IntL Go.Proofs.YtmkpfofjeefaoaaDoor.IntA Go.Proofs.YtmkpfofjeefaoaaDoor.HalS Go.Proofs.YtmkpfofjeefaoaaDoor.UniS Go.Proofs.YtmkpfofjeefaoaaDoor.SprS Go.Proofs.YtmkpfofjeefaoaaDoor.GatS

theorem ow_nil (base : Nat) (w : World) : OwI base w (.slice none 0 0) [] := ⟨rfl, .inl ⟨rfl, rfl⟩⟩
/-- What lies above block R stays while R turns. -/
theorem Ow.over {k : IntKind} {t base R : Nat} {w w' : World} {v : Value} {ys : List Int} (h : Ow k t base w v ys) (hR : R < base) (hg : w.grownBy w' (some R)) : Ow k t base w' v ys :=
  h.kept hg (fun j e => by cases e; exact hR)
theorem grown_set2 (w : World) (R : Nat) (x y : Value) : w.grownBy ((w.setCell ⟨R, 0, none⟩ x).setCell ⟨R, 1, none⟩ y) (some R) := grown_same (grown_set w R 0 x) (grown_set _ R 1 y)
theorem grown_set3 (w : World) (R : Nat) (x y z : Value) : w.grownBy (((w.setCell ⟨R, 0, none⟩ x).setCell ⟨R, 1, none⟩ y).setCell ⟨R, 2, none⟩ z) (some R) := grown_same (grown_set2 w R x y) (grown_set _ R 2 z)
theorem sz_len {n : Nat} : (szF (n : Int) = 0) ↔ is3 n = true := by
  unfold szF is3
  by_cases h : n = 4 ∨ n = 8 ∨ n = 16
  · rw [if_pos (by omega), decide_eq_true h]; simp
  · rw [if_neg (by omega), decide_eq_false h]; simp

/-- The code of a block's list. -/
def akC (M : Int) (l : List Int) : Int := if is3 l.length = true then (if l.all (inB (-M) M) = true then 0 else 3) else 2
theorem l6Ask_calls (v : Value) (l : List Int) (M : Int) (w : World) (h : Sl .i64 w v l) (hm : l.length ≤ 1048576) (h0 : 0 ≤ M) (h1 : M ≤ 1000000000) :
    Calls Tryd.prog 42 #[v, .int .i64 M] w fun e w' => e = .returned (.int .i64 (akC M l)) ∧ w' = w := by
  have HS := hid (specSizeFault_calls (l.length : Int))
  have HA := hid (fun W (hW : Sl .i64 W v l) => all_calls v l (-M) M W hW hm)
  have Hs := hid h
  obtain ⟨a, cap, rfl, _⟩ := h
  cases h3 : is3 l.length
  · have hz : szF (l.length : Int) = 3 := by
      rcases sz_03 (l.length : Int) with e | e
      · rw [sz_len.1 e] at h3; cases h3
      · exact e
    have HE : Hid (akC M l = 2) := by show _ = _; unfold akC; rw [if_neg (by rw [h3]; simp)]
    rw [hz] at HS
    clear hz h3 HA
    go_enter Tryd.func42, Tryd.ntmps42
    go_wp2_with (go_at_call 60; refine (HS.out _).mono ?_; rintro e w' ⟨rfl, rfl⟩)
    go_ret
    exact ⟨by rw [HE.out]; rfl, rfl⟩
  · have hz : szF (l.length : Int) = 0 := sz_len.2 h3
    rw [hz] at HS
    cases ha : l.all (inB (-M) M)
    · have HE : Hid (akC M l = 3) := by show _ = _; unfold akC; rw [if_pos h3, if_neg (by rw [ha]; simp)]
      rw [ha] at HA
      clear hz h3 ha
      go_enter Tryd.func42, Tryd.ntmps42
      go_wp2_with (first | (go_at_call 60; refine (HS.out _).mono ?_; rintro e w' ⟨rfl, rfl⟩) | (go_at_call 44; refine (HA.out _ Hs.out).mono ?_; rintro e w' ⟨rfl, rfl⟩))
      go_ret
      exact ⟨by rw [HE.out]; rfl, rfl⟩
    · have HE : Hid (akC M l = 0) := by show _ = _; unfold akC; rw [if_pos h3, if_pos ha]
      rw [ha] at HA
      clear hz h3 ha
      go_enter Tryd.func42, Tryd.ntmps42
      go_wp2_with (first | (go_at_call 60; refine (HS.out _).mono ?_; rintro e w' ⟨rfl, rfl⟩) | (go_at_call 44; refine (HA.out _ Hs.out).mono ?_; rintro e w' ⟨rfl, rfl⟩))
      go_ret
      exact ⟨by rw [HE.out]; rfl, rfl⟩
theorem ask_sb (l : List Int) : akC 65536 l = sbC l := rfl
set_option maxHeartbeats 1000000 in
theorem specSpreadBlock_calls (v : Value) (l : List Int) (w : World) (h : Sl .i64 w v l) (hm : l.length ≤ 1048576) :
    Calls Tryd.prog 14 #[v] w fun e w' => ∃ u, e = .returned (.agg #[.int .i64 (sbC l), u]) ∧ OwI w.heap.size w' u (sbL l) ∧ Below w.heap.size w w' := by
  have HA := hid (fun W (hW : Sl .i64 W v l) => l6Ask_calls v l 65536 W hW hm (by omega) (by omega))
  rw [ask_sb] at HA
  have Hs := hid (h.later (bmore (Below.refl _ w) (.cells #[.int .i64 0, .slice none 0 0] 27)))
  obtain ⟨a, cap, rfl, hc⟩ := h
  by_cases hc0 : sbC l = 0
  · obtain ⟨h3, hlim⟩ := sb_ok hc0
    obtain ⟨e1, e2⟩ := dep_pow (is3_sz h3)
    have HG := hid (fun W (hW : Sl .i64 W (.slice a l.length cap) l) => l6Spread_calls (dep l.length) _ l 65536 W e2 hW e1 hlim (by rcases is3_sz h3 with e | e | e | e <;> rw [e] <;> decide))
    have HL : Hid (sbL l = sp (dep l.length) l) := if_pos hc0
    rw [hc0] at HA
    have HC := hid hc0
    clear hc0 h3 hlim e1 e2 hc
    rw [HC.out]
    generalize 2 ^ dep l.length = q at *
    go_enter Tryd.func14, Tryd.ntmps14
    go_wp2_with (first | (go_at_call 42; refine (HA.out _ Hs.out).mono ?_; rintro e w' ⟨rfl, rfl⟩) | fail)
    refine (HG.out _ Hs.out).mono ?_
    rintro e w1 ⟨g, cp, rfl, ho, hb⟩
    have HB := hid ((Blk.new w #[.int .i64 0, .slice none 0 0] 27).later hb)
    have HLb := hid (bthen (bmore (Below.refl _ w) _) hb)
    have HO := hid (App.Ow.mono (Ow.over ho (by simp) (grown_set2 w1 w.heap.size (.int .i64 0) (.slice (some ⟨g, 0, none⟩) q cp))) (show w.heap.size ≤ _ by simp))
    obtain ⟨c0, c1, f0, f1⟩ := HB.out.two
    clear ho hb HG
    go_wp2
    exact bodyPost_ret (v := .agg #[.int .i64 0, .slice (some ⟨g, 0, none⟩) q cp]) (by simp [results, Tryd.results14, go_sem, c0, c1]) rfl ⟨_, rfl, by rw [HL.out]; exact HO.out, below_cell (below_cell HLb.out (Nat.le_refl _) _ _) (Nat.le_refl _) _ _⟩
  · have HL : Hid (sbL l = []) := if_neg hc0
    have hcb : (sbC l != 0) = true := by simpa using hc0
    clear hc0 hc
    generalize sbC l = c at *
    go_enter Tryd.func14, Tryd.ntmps14
    go_wp2_with (first | (go_at_call 42; refine (HA.out _ Hs.out).mono ?_; rintro e w' ⟨rfl, rfl⟩) | fail)
    exact bodyPost_ret (v := .agg #[.int .i64 c, .slice none 0 0]) (by simp [results, Tryd.results14, go_sem]) rfl ⟨_, rfl, by rw [HL.out]; exact ow_nil _ _, bmore (Below.refl _ _) _⟩
theorem ask_gb (l : List Int) : akC 16777216 l = gbC l := rfl
set_option maxHeartbeats 1000000 in
theorem specGatherBlock_calls (v : Value) (l : List Int) (w : World) (h : Sl .i64 w v l) (hm : l.length ≤ 1048576) :
    Calls Tryd.prog 22 #[v] w fun e w' => ∃ u, e = .returned (.agg #[.int .i64 (gbC l), u]) ∧ OwI w.heap.size w' u (gbL l) ∧ Below w.heap.size w w' := by
  have HA := hid (fun W (hW : Sl .i64 W v l) => l6Ask_calls v l 16777216 W hW hm (by omega) (by omega))
  rw [ask_gb] at HA
  have Hs := hid (h.later (bmore (Below.refl _ w) (.cells #[.int .i64 0, .slice none 0 0] 27)))
  obtain ⟨a, cap, rfl, hc⟩ := h
  by_cases hc0 : gbC l = 0
  · obtain ⟨h3, hlim⟩ := gb_ok hc0
    obtain ⟨e1, e2⟩ := dep_pow (is3_sz h3)
    have HG := hid (fun W (hW : Sl .i64 W (.slice a l.length cap) l) => l6Gather_calls (dep l.length) _ l 16777216 W e2 hW e1 hlim (by rcases is3_sz h3 with e | e | e | e <;> rw [e] <;> decide))
    have HL : Hid (gbL l = ga (dep l.length) l) := if_pos hc0
    rw [hc0] at HA
    have HC := hid hc0
    clear hc0 h3 hlim e1 e2 hc
    rw [HC.out]
    generalize 2 ^ dep l.length = q at *
    go_enter Tryd.func22, Tryd.ntmps22
    go_wp2_with (first | (go_at_call 42; refine (HA.out _ Hs.out).mono ?_; rintro e w' ⟨rfl, rfl⟩) | fail)
    refine (HG.out _ Hs.out).mono ?_
    rintro e w1 ⟨g, cp, rfl, ho, hb⟩
    have HB := hid ((Blk.new w #[.int .i64 0, .slice none 0 0] 27).later hb)
    have HLb := hid (bthen (bmore (Below.refl _ w) _) hb)
    have HO := hid (App.Ow.mono (Ow.over ho (by simp) (grown_set2 w1 w.heap.size (.int .i64 0) (.slice (some ⟨g, 0, none⟩) q cp))) (show w.heap.size ≤ _ by simp))
    obtain ⟨c0, c1, f0, f1⟩ := HB.out.two
    clear ho hb HG
    go_wp2
    exact bodyPost_ret (v := .agg #[.int .i64 0, .slice (some ⟨g, 0, none⟩) q cp]) (by simp [results, Tryd.results22, go_sem, c0, c1]) rfl ⟨_, rfl, by rw [HL.out]; exact HO.out, below_cell (below_cell HLb.out (Nat.le_refl _) _ _) (Nat.le_refl _) _ _⟩
  · have HL : Hid (gbL l = []) := if_neg hc0
    have hcb : (gbC l != 0) = true := by simpa using hc0
    clear hc0 hc
    generalize gbC l = c at *
    go_enter Tryd.func22, Tryd.ntmps22
    go_wp2_with (first | (go_at_call 42; refine (HA.out _ Hs.out).mono ?_; rintro e w' ⟨rfl, rfl⟩) | fail)
    exact bodyPost_ret (v := .agg #[.int .i64 c, .slice none 0 0]) (by simp [results, Tryd.results22, go_sem]) rfl ⟨_, rfl, by rw [HL.out]; exact ow_nil _ _, bmore (Below.refl _ _) _⟩
theorem two_lists {w : World} {m gs cs gd cd : Nat} {S D : List Int} {W : World} {R : Nat} {x : Value} (h : HK w m gs cs gd cd S D W) (hR : R < w.heap.size) :
    OwI w.heap.size (((W.setCell ⟨R, 0, none⟩ x).setCell ⟨R, 1, none⟩ (.slice (some ⟨gs, 0, none⟩) m cs)).setCell ⟨R, 2, none⟩ (.slice (some ⟨gd, 0, none⟩) m cd)) (.slice (some ⟨gs, 0, none⟩) m cs) S ∧
    OwI w.heap.size (((W.setCell ⟨R, 0, none⟩ x).setCell ⟨R, 1, none⟩ (.slice (some ⟨gs, 0, none⟩) m cs)).setCell ⟨R, 2, none⟩ (.slice (some ⟨gd, 0, none⟩) m cd)) (.slice (some ⟨gd, 0, none⟩) m cd) D :=
  ⟨Ow.over h.s hR (grown_set3 W R _ _ _), Ow.over h.d hR (grown_set3 W R _ _ _)⟩
/-- Two lists that share no block. -/
def apart2 (u v : Value) : Prop := ∀ g, u.ownBlock = some g → v.ownBlock ≠ some g
set_option maxHeartbeats 2000000 in
theorem specHalveList_calls (v : Value) (l : List Int) (w : World) (h : Sl .i64 w v l) (hm : l.length ≤ 1048576) :
    Calls Tryd.prog 15 #[v] w fun e w' => ∃ u t, e = .returned (.agg #[.int .i64 (hvC l), u, t]) ∧ OwI w.heap.size w' u (hvS l) ∧ OwI w.heap.size w' t (hvD l) ∧ apart2 u t ∧ Below w.heap.size w w' := by
  have HA := hid (fun W (hW : Sl .i64 W v l) => all_calls v l (-1073741824) 1073741824 W hW hm)
  have Hs := hid (h.later (bmore (Below.refl _ w) (.cells #[.int .i64 0, .slice none 0 0, .slice none 0 0] 30)))
  have HN : Hid (∀ (W : World) (g : Int), hvS l = [] → hvD l = [] → hvC l = g → Below w.heap.size w W → ∃ u t, Ending.returned (.agg #[.int .i64 g, .slice none 0 0, .slice none 0 0]) = .returned (.agg #[.int .i64 (hvC l), u, t]) ∧ OwI w.heap.size W u (hvS l) ∧ OwI w.heap.size W t (hvD l) ∧ apart2 u t ∧ Below w.heap.size w W) :=
    fun W g h1 h2 h3 h4 => ⟨_, _, by rw [h3], by rw [h1]; exact ow_nil _ _, by rw [h2]; exact ow_nil _ _, (fun _ e => by cases e), h4⟩
  obtain ⟨a, cap, rfl, _⟩ := h
  cases h4 : is4 l.length
  · have hno : ¬ (l.length = 2 ∨ l.length = 4 ∨ l.length = 8 ∨ l.length = 16) := of_decide_eq_false h4
    have hC : hvC l = 2 := by unfold hvC; rw [if_neg (by rw [h4]; simp)]
    have HE := hid (HN.out _ 2 (if_neg (by rw [hC]; decide)) (if_neg (by rw [hC]; decide)) hC (bmore (Below.refl _ w) (.cells #[.int .i64 2, .slice none 0 0, .slice none 0 0] 30)))
    have b2 : ((l.length : Int) != 2) = true := by simp; omega
    have b4 : ((l.length : Int) != 4) = true := by simp; omega
    have b8 : ((l.length : Int) != 8) = true := by simp; omega
    have b16 : ((l.length : Int) != 16) = true := by simp; omega
    clear hno h4 HA HN hC
    go_enter Tryd.func15, Tryd.ntmps15
    go_wp2
    exact bodyPost_ret (v := .agg #[.int .i64 2, .slice none 0 0, .slice none 0 0]) (by simp [results, Tryd.results15, go_sem]) rfl HE.out
  · have hsz := is4_sz h4
    cases ha : l.all (inB (-1073741824) 1073741824)
    · have hC : hvC l = 3 := by unfold hvC hdB; rw [if_pos h4, if_neg (by rw [show (l.all fun v => inB (-1073741824) 1073741824 v) = false from ha]; simp)]
      have HE := hid (HN.out _ 3 (if_neg (by rw [hC]; decide)) (if_neg (by rw [hC]; decide)) hC (bmore (Below.refl _ w) (.cells #[.int .i64 3, .slice none 0 0, .slice none 0 0] 30)))
      rw [ha] at HA
      clear ha h4 HN hC
      generalize l.length = n at *
      rcases hsz with rfl | rfl | rfl | rfl
      all_goals
        go_enter Tryd.func15, Tryd.ntmps15
        go_wp2_with (go_at_call 44; refine (HA.out _ Hs.out).mono ?_; rintro e w' ⟨rfl, rfl⟩)
        exact bodyPost_ret (v := .agg #[.int .i64 3, .slice none 0 0, .slice none 0 0]) (by simp [results, Tryd.results15, go_sem]) rfl HE.out
    · have hC : hvC l = 0 := by unfold hvC hdB; rw [if_pos h4, if_pos (show (l.all fun v => inB (-1073741824) 1073741824 v) = true from ha)]
      have HH := hid (fun W (hW : Sl .i64 W (.slice a l.length cap) l) => l6Halve_calls _ l 1073741824 W hW hsz (hv_ok hC).2 (by omega))
      have ES : Hid (hvS l = hS l) := if_pos hC
      have ED : Hid (hvD l = hD l) := if_pos hC
      have EC := hid hC
      rw [ha] at HA
      rw [hC]
      clear ha h4 HN hC
      generalize l.length / 2 = m at *
      generalize l.length = n at *
      rcases hsz with rfl | rfl | rfl | rfl
      all_goals
        go_enter Tryd.func15, Tryd.ntmps15
        go_wp2_with (first | (go_at_call 44; refine (HA.out _ Hs.out).mono ?_; rintro e w' ⟨rfl, rfl⟩) | fail)
        refine (HH.out _ Hs.out).mono ?_
        rintro e w1 ⟨gs, cs, gd, cd, rfl, hk⟩
        have HB := hid ((Blk.new w #[.int .i64 0, .slice none 0 0, .slice none 0 0] 30).later hk.b)
        have HLb := hid (bthen (bmore (Below.refl _ w) _) hk.b)
        have HT := hid (two_lists (R := w.heap.size) (x := .int .i64 0) hk (by simp))
        have hne := hk.ne
        obtain ⟨c0, c1, c2, f0, f1, f2⟩ := HB.out.three
        clear hk HH HA
        go_wp2
        exact bodyPost_ret (v := .agg #[.int .i64 0, .slice (some ⟨gs, 0, none⟩) m cs, .slice (some ⟨gd, 0, none⟩) m cd]) (by simp [results, Tryd.results15, go_sem, c0, c1, c2]) rfl
          ⟨_, _, rfl, by rw [ES.out]; exact App.Ow.mono HT.out.1 (by simp), by rw [ED.out]; exact App.Ow.mono HT.out.2 (by simp), fun g e => by simp [Value.ownBlock] at e ⊢; omega, below_cell (below_cell (below_cell HLb.out (Nat.le_refl _) _ _) (Nat.le_refl _) _ _) (Nat.le_refl _) _ _⟩
theorem uh_many {s d : List Int} (h : ¬ (is4 (2 * s.length) = true ∧ d.length = s.length)) : uhC s d = 2 := if_neg h
theorem uh_range {s d : List Int} (h : is4 (2 * s.length) = true ∧ d.length = s.length) (h2 : ¬ (s.all hdB = true ∧ d.all hdB = true)) : uhC s d = 3 := by unfold uhC; rw [if_pos h, if_neg h2]
theorem uh_yes {s d : List Int} (h : is4 (2 * s.length) = true ∧ d.length = s.length) (h2 : s.all hdB = true ∧ d.all hdB = true) : uhC s d = 0 := by unfold uhC; rw [if_pos h, if_pos h2]
set_option maxHeartbeats 2000000 in
theorem specUniteHalves_calls (vs vd : Value) (s d : List Int) (w : World) (hs : Sl .i64 w vs s) (hd : Sl .i64 w vd d) (hm : s.length ≤ 1048576) (hm2 : d.length ≤ 1048576) :
    Calls Tryd.prog 17 #[vs, vd] w fun e w' => ∃ u, e = .returned (.agg #[.int .i64 (uhC s d), u]) ∧ OwI w.heap.size w' u (uhL s d) ∧ Below w.heap.size w w' := by
  have HAs := hid (fun W (hW : Sl .i64 W vs s) => all_calls vs s (-1073741824) 1073741824 W hW hm)
  have HAd := hid (fun W (hW : Sl .i64 W vd d) => all_calls vd d (-1073741824) 1073741824 W hW hm2)
  have Hs := hid (hs.later (bmore (Below.refl _ w) (.cells #[.int .i64 0, .slice none 0 0] 27)))
  have Hd := hid (hd.later (bmore (Below.refl _ w) (.cells #[.int .i64 0, .slice none 0 0] 27)))
  have HN : Hid (∀ (W : World) (g : Int), g ≠ 0 → uhC s d = g → Below w.heap.size w W → ∃ u, Ending.returned (.agg #[.int .i64 g, .slice none 0 0]) = .returned (.agg #[.int .i64 (uhC s d), u]) ∧ OwI w.heap.size W u (uhL s d) ∧ Below w.heap.size w W) :=
    fun W g h1 h3 h4 => ⟨_, by rw [h3], by rw [show uhL s d = [] from if_neg (by rw [h3]; exact h1)]; exact ow_nil _ _, h4⟩
  obtain ⟨a, cap, rfl, _⟩ := hs
  obtain ⟨a2, cap2, rfl, _⟩ := hd
  cases h4 : is4 (2 * s.length)
  · have hno : ¬ (2 * s.length = 2 ∨ 2 * s.length = 4 ∨ 2 * s.length = 8 ∨ 2 * s.length = 16) := of_decide_eq_false h4
    have HE := hid (HN.out _ 2 (by decide) (uh_many (by rw [h4]; simp)) (bmore (Below.refl _ w) (.cells #[.int .i64 2, .slice none 0 0] 27)))
    have b1 : ((s.length : Int) != 1) = true := by simp; omega
    have b2 : ((s.length : Int) != 2) = true := by simp; omega
    have b4 : ((s.length : Int) != 4) = true := by simp; omega
    have b8 : ((s.length : Int) != 8) = true := by simp; omega
    clear hno h4 HAs HAd HN
    go_enter Tryd.func17, Tryd.ntmps17
    go_wp2
    exact bodyPost_ret (v := .agg #[.int .i64 2, .slice none 0 0]) (by simp [results, Tryd.results17, go_sem]) rfl HE.out
  · have hsz := is4_sz h4
    have hsz2 : s.length = 1 ∨ s.length = 2 ∨ s.length = 4 ∨ s.length = 8 := by unfold sz4 at hsz; omega
    by_cases hl : d.length = s.length
    · cases has : s.all (inB (-1073741824) 1073741824)
      · have HE := hid (HN.out _ 3 (by decide) (uh_range ⟨h4, hl⟩ (by rw [show s.all hdB = false from has]; simp)) (bmore (Below.refl _ w) (.cells #[.int .i64 3, .slice none 0 0] 27)))
        rw [has] at HAs
        rw [hl]
        clear has h4 HN hsz HAd Hd hl
        generalize s.length = n at *
        rcases hsz2 with rfl | rfl | rfl | rfl
        all_goals
          go_enter Tryd.func17, Tryd.ntmps17
          go_wp2_with (go_at_call 44; refine (HAs.out _ Hs.out).mono ?_; rintro e w' ⟨rfl, rfl⟩)
          exact bodyPost_ret (v := .agg #[.int .i64 3, .slice none 0 0]) (by simp [results, Tryd.results17, go_sem]) rfl HE.out
      · rw [has] at HAs
        cases had : d.all (inB (-1073741824) 1073741824)
        · have HE := hid (HN.out _ 3 (by decide) (uh_range ⟨h4, hl⟩ (by rw [show d.all hdB = false from had]; simp)) (bmore (Below.refl _ w) (.cells #[.int .i64 3, .slice none 0 0] 27)))
          rw [had] at HAd
          rw [hl] at HAd Hd ⊢
          clear has had h4 HN hsz hl
          generalize s.length = n at *
          rcases hsz2 with rfl | rfl | rfl | rfl
          all_goals
            go_enter Tryd.func17, Tryd.ntmps17
            go_wp2_with fail
            refine (HAs.out _ Hs.out).mono ?_
            rintro e w' ⟨rfl, rfl⟩
            go_wp2_with fail
            refine (HAd.out _ Hd.out).mono ?_
            rintro e w' ⟨rfl, rfl⟩
            go_wp2
            exact bodyPost_ret (v := .agg #[.int .i64 3, .slice none 0 0]) (by simp [results, Tryd.results17, go_sem]) rfl HE.out
        · have hC := uh_yes ⟨h4, hl⟩ ⟨(show s.all hdB = true from has), (show d.all hdB = true from had)⟩
          obtain ⟨_, _, l1, l2⟩ := uh_ok hC
          have HU := hid (fun W (hW : Sl .i64 W (.slice a s.length cap) s) (hW2 : Sl .i64 W (.slice a2 d.length cap2) d) => l6Unite_calls _ _ s d 1073741824 W hW hW2 hsz hl l1 l2 (by omega))
          have EL : Hid (uhL s d = un s d) := if_pos hC
          rw [had] at HAd
          rw [hl] at HAd Hd HU ⊢
          rw [hC]
          clear has had h4 HN hsz hl hC l1 l2
          generalize un s d = R at *
          generalize 2 * s.length = q at *
          generalize s.length = n at *
          rcases hsz2 with rfl | rfl | rfl | rfl
          all_goals
            go_enter Tryd.func17, Tryd.ntmps17
            go_wp2_with fail
            refine (HAs.out _ Hs.out).mono ?_
            rintro e w' ⟨rfl, rfl⟩
            go_wp2_with fail
            refine (HAd.out _ Hd.out).mono ?_
            rintro e w' ⟨rfl, rfl⟩
            go_wp2_with fail
            refine (HU.out _ Hs.out Hd.out).mono ?_
            rintro e w1 ⟨g, rfl, ho, hb⟩
            have HB := hid ((Blk.new w #[.int .i64 0, .slice none 0 0] 27).later hb)
            have HLb := hid (bthen (bmore (Below.refl _ w) _) hb)
            have HO := hid (App.Ow.mono (Ow.over ho (by simp) (grown_set2 w1 w.heap.size (.int .i64 0) (.slice (some ⟨g, 0, none⟩) q q))) (show w.heap.size ≤ _ by simp))
            obtain ⟨c0, c1, f0, f1⟩ := HB.out.two
            clear ho hb HU HAs HAd
            go_wp2
            exact bodyPost_ret (v := .agg #[.int .i64 0, .slice (some ⟨g, 0, none⟩) q q]) (by simp [results, Tryd.results17, go_sem, c0, c1]) rfl ⟨_, rfl, by rw [EL.out]; exact HO.out, below_cell (below_cell HLb.out (Nat.le_refl _) _ _) (Nat.le_refl _) _ _⟩
    · have HE := hid (HN.out _ 2 (by decide) (uh_many (fun h => hl h.2)) (bmore (Below.refl _ w) (.cells #[.int .i64 2, .slice none 0 0] 27)))
      have hdn : ((d.length : Int) != (s.length : Int)) = true := by simp; omega
      clear hl h4 HAs HAd HN hsz Hs Hd
      generalize s.length = n at *
      rcases hsz2 with rfl | rfl | rfl | rfl
      all_goals
        simp only [Int.cast_ofNat_Int] at hdn
        go_enter Tryd.func17, Tryd.ntmps17
        go_wp2
        exact bodyPost_ret (v := .agg #[.int .i64 2, .slice none 0 0]) (by simp [results, Tryd.results17, go_sem]) rfl HE.out
end Go.Proofs.YtmkpfofjeefaoaaDoor.BloS
