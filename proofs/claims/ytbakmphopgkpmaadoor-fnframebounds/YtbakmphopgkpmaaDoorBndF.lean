/- GatherBounds and FrameBounds of the model. Conditions: lists of at most 1048576 numbers. -/
import Derived.Test.YtbakmphopgkpmaaDoorBndT
import Derived.Test.YtbakmphopgkpmaaDoorGg
import Derived.Test.YtbakmphopgkpmaaDoorGk
import Derived.Lib.AppendZeros
namespace Go.Proofs.YtbakmphopgkpmaaDoor.BndF
open Go.ChangeShapes Go.WideShapes Go.ChangeAt Go.RowKit Go.Proofs.YtbakmphopgkpmaaDoor.Num Go.Proofs.YtbakmphopgkpmaaDoor.Sli Go.Proofs.YtbakmphopgkpmaaDoor.App Go.Proofs.YtbakmphopgkpmaaDoor.Div Go.Proofs.YtbakmphopgkpmaaDoor.Samp Go.Proofs.YtbakmphopgkpmaaDoor.Blk Go.Proofs.YtbakmphopgkpmaaDoor.TurM Go.Proofs.YtbakmphopgkpmaaDoor.TurS Go.Proofs.YtbakmphopgkpmaaDoor.HalM Go.Proofs.YtbakmphopgkpmaaDoor.LapM Go.Proofs.YtbakmphopgkpmaaDoor.LapN Go.Proofs.YtbakmphopgkpmaaDoor.IntL Go.Proofs.YtbakmphopgkpmaaDoor.IntA Go.Proofs.YtbakmphopgkpmaaDoor.HalS Go.Proofs.YtbakmphopgkpmaaDoor.GatS Go.Proofs.YtbakmphopgkpmaaDoor.BloS Go.Proofs.YtbakmphopgkpmaaDoor.LapT Go.Proofs.YtbakmphopgkpmaaDoor.LapU Go.Proofs.YtbakmphopgkpmaaDoor.LapV Go.Proofs.YtbakmphopgkpmaaDoor.BndM Go.Proofs.YtbakmphopgkpmaaDoor.BndS Go.Proofs.YtbakmphopgkpmaaDoor.BndG Go.Proofs.YtbakmphopgkpmaaDoor.BndT
theorem nlim_all {l : List Int} (h : l.all mbB = true) : nlim 67108864 l := by
  intro i
  rw [List.all_eq_true] at h
  by_cases hi : i < l.length
  · have := of_inB (h (l.getD i 0) (by rw [List.getD_eq_getElem?_getD, List.getElem?_eq_getElem hi, Option.getD_some]; exact List.getElem_mem hi))
    omega
  · rw [List.getD_eq_getElem?_getD, List.getElem?_eq_none (by omega), Option.getD_none]; omega
theorem gbd_ok {l : List Int} (h : gbdC l = 0) : is3 l.length = true ∧ nlim 67108864 l := by
  unfold gbdC at h
  split at h
  · rename_i h3
    split at h
    · rename_i ha; exact ⟨h3, nlim_all ha⟩
    · cases h
  · cases h
theorem gbdL_small (c : List Int) : (gbdL c).length ≤ 1048576 := by
  by_cases h : gbdC c = 0
  · obtain ⟨e1, e2⟩ := dep_pow (is3_sz (gbd_ok h).1)
    rw [show gbdL c = gaB (dep c.length) c from if_pos h, gaB_len _ _ e1]
    rcases is3_sz (gbd_ok h).1 with e | e | e | e <;> rw [e] <;> decide
  · rw [show gbdL c = [] from if_neg h]; decide
theorem l8Ask_calls (v : Value) (l : List Int) (w : World) (h : Sl .i64 w v l) (hm : l.length ≤ 1048576) :
    Calls Tryd.prog 68 #[v] w fun e w' => e = .returned (.int .i64 (gbdC l)) ∧ w' = w := by
  have HS := hid (specSizeFault_calls (l.length : Int))
  have HA := hid (fun W (hW : Sl .i64 W v l) => all_calls v l 0 67108864 W hW hm)
  have Hs := hid h
  obtain ⟨a, cap, rfl, _⟩ := h
  cases h3 : is3 l.length
  · have hz : szF (l.length : Int) = 3 := by
      rcases sz_03 (l.length : Int) with e | e
      · rw [sz_len.1 e] at h3; cases h3
      · exact e
    have HE : Hid (gbdC l = 2) := by show _ = _; unfold gbdC; rw [if_neg (by rw [h3]; simp)]
    rw [hz] at HS
    clear hz h3 HA
    go_enter Tryd.func68, Tryd.ntmps68
    go_wp2_with (go_at_call 81; refine (HS.out _).mono ?_; rintro e w' ⟨rfl, rfl⟩)
    go_ret
    exact ⟨by rw [HE.out]; rfl, rfl⟩
  · have hz : szF (l.length : Int) = 0 := sz_len.2 h3
    rw [hz] at HS
    cases ha : l.all (inB 0 67108864)
    · have HE : Hid (gbdC l = 3) := by show _ = _; unfold gbdC mbB; rw [if_pos h3, if_neg (by rw [show (l.all fun v => inB 0 67108864 v) = false from ha]; simp)]
      rw [ha] at HA
      clear hz h3 ha
      go_enter Tryd.func68, Tryd.ntmps68
      go_wp2_with (first | (go_at_call 81; refine (HS.out _).mono ?_; rintro e w' ⟨rfl, rfl⟩) | (go_at_call 106; refine (HA.out _ Hs.out).mono ?_; rintro e w' ⟨rfl, rfl⟩))
      go_ret
      exact ⟨by rw [HE.out]; rfl, rfl⟩
    · have HE : Hid (gbdC l = 0) := by show _ = _; unfold gbdC mbB; rw [if_pos h3, if_pos (show (l.all fun v => inB 0 67108864 v) = true from ha)]
      rw [ha] at HA
      clear hz h3 ha
      go_enter Tryd.func68, Tryd.ntmps68
      go_wp2_with (first | (go_at_call 81; refine (HS.out _).mono ?_; rintro e w' ⟨rfl, rfl⟩) | (go_at_call 106; refine (HA.out _ Hs.out).mono ?_; rintro e w' ⟨rfl, rfl⟩))
      go_ret
      exact ⟨by rw [HE.out]; rfl, rfl⟩
set_option maxHeartbeats 1000000 in
theorem specGatherBounds_calls (v : Value) (l : List Int) (w : World) (h : Sl .i64 w v l) (hm : l.length ≤ 1048576) :
    Calls Tryd.prog 23 #[v] w fun e w' => ∃ u, e = .returned (.agg #[.int .i64 (gbdC l), u]) ∧ OwI w.heap.size w' u (gbdL l) ∧ Below w.heap.size w w' := by
  have HA := hid (fun W (hW : Sl .i64 W v l) => l8Ask_calls v l W hW hm)
  have Hs := hid (h.later (bmore (Below.refl _ w) (.cells #[.int .i64 0, .slice none 0 0] 35)))
  obtain ⟨a, cap, rfl, hc⟩ := h
  by_cases hc0 : gbdC l = 0
  · obtain ⟨h3, hlim⟩ := gbd_ok hc0
    obtain ⟨e1, e2⟩ := dep_pow (is3_sz h3)
    have HG := hid (fun W (hW : Sl .i64 W (.slice a l.length cap) l) => l8Gather_calls (dep l.length) _ l 67108864 W e2 hW e1 hlim (by rcases is3_sz h3 with e | e | e | e <;> rw [e] <;> decide))
    have HL : Hid (gbdL l = gaB (dep l.length) l) := if_pos hc0
    rw [hc0] at HA
    have HC := hid hc0
    clear hc0 h3 hlim e1 e2 hc
    rw [HC.out]
    generalize 2 ^ dep l.length = q at *
    go_enter Tryd.func23, Tryd.ntmps23
    go_wp2_with (first | (go_at_call 68; refine (HA.out _ Hs.out).mono ?_; rintro e w' ⟨rfl, rfl⟩) | fail)
    refine (HG.out _ Hs.out).mono ?_
    rintro e w1 ⟨g, cp, rfl, ho, hb⟩
    have HB := hid ((Blk.new w #[.int .i64 0, .slice none 0 0] 35).later hb)
    have HLb := hid (bthen (bmore (Below.refl _ w) _) hb)
    have HO := hid (App.Ow.mono (BloS.Ow.over ho (by simp) (grown_set2 w1 w.heap.size (.int .i64 0) (.slice (some ⟨g, 0, none⟩) q cp))) (show w.heap.size ≤ _ by simp))
    obtain ⟨c0, c1, f0, f1⟩ := HB.out.two
    clear ho hb HG
    go_wp2
    exact bodyPost_ret (v := .agg #[.int .i64 0, .slice (some ⟨g, 0, none⟩) q cp]) (by simp [results, Tryd.results23, go_sem, c0, c1]) rfl ⟨_, rfl, by rw [HL.out]; exact HO.out, below_cell (below_cell HLb.out (Nat.le_refl _) _ _) (Nat.le_refl _) _ _⟩
  · have HL : Hid (gbdL l = []) := if_neg hc0
    have hcb : (gbdC l != 0) = true := by simpa using hc0
    clear hc0 hc
    generalize gbdC l = c at *
    go_enter Tryd.func23, Tryd.ntmps23
    go_wp2_with (first | (go_at_call 68; refine (HA.out _ Hs.out).mono ?_; rintro e w' ⟨rfl, rfl⟩) | fail)
    exact bodyPost_ret (v := .agg #[.int .i64 c, .slice none 0 0]) (by simp [results, Tryd.results23, go_sem]) rfl ⟨_, rfl, by rw [HL.out]; exact ow_nil _ _, bmore (Below.refl _ _) _⟩
theorem nlim_take {M : Int} {l : List Int} (h : nlim M l) (n : Nat) : nlim M (l.take n) := fun i => by
  rw [take_get]; split
  · exact h i
  · have := h.pos; omega
theorem nlim_drop {M : Int} {l : List Int} (h : nlim M l) (n : Nat) : nlim M (l.drop n) := fun i => by rw [drop_get]; exact h _
theorem gb_lim {s : Int} (hz : szF s = 0) {x : List Int} (lx : x.length = s.toNat) (hx : nlim 67108864 x) : (gaB (dep s.toNat) x).length = s.toNat ∧ nlim 137438953472 (gaB (dep s.toNat) x) ∧ x.length = 2 ^ dep s.toNat ∧ dep s.toNat ≤ 4 ∧ bG (dep s.toNat) 67108864 ≤ 34359738368 := by
  obtain ⟨d1, d2⟩ := dep_of hz
  have hB : bG (dep s.toNat) 67108864 ≤ 34359738368 := by rcases is3_sz (sz_nat hz).1 with e | e | e | e <;> rw [e] <;> decide
  have hl : x.length = 2 ^ dep s.toNat := by rw [lx]; exact d1
  exact ⟨by rw [gaB_len _ _ hl]; exact d1.symm, (nlim_gaB _ d2 hl hx).mono (by omega), hl, d2, hB⟩
attribute [-go_sem] Builtin.append_
set_option maxRecDepth 100000 in
set_option maxHeartbeats 4000000 in
theorem l8Frame_calls (s : Int) (v1 v2 v3 : Value) (x y z : List Int) (w : World) (hz : szF s = 0) (h1 : Sl .i64 w v1 x) (h2 : Sl .i64 w v2 y) (h3 : Sl .i64 w v3 z)
    (l1 : x.length = s.toNat) (l2 : y.length = s.toNat) (l3 : z.length = s.toNat) (b1 : nlim 67108864 x) (b2 : nlim 67108864 y) (b3 : nlim 67108864 z) :
    Calls Tryd.prog 82 #[.int .i64 s, v1, v2, v3] w fun e w' => ∃ g c, e = .returned (.slice (some ⟨g, 0, none⟩) (hN s + hN s : Nat) c) ∧ OwI w.heap.size w' (.slice (some ⟨g, 0, none⟩) (hN s + hN s) c) (frB s x y z) ∧ Below w.heap.size w w' := by
  obtain ⟨-, e1, e2, e3, e4, e5⟩ := sz_nat hz
  obtain ⟨d1, d2⟩ := dep_of hz
  have hm0 : s.tdiv 2 = (hN s : Int) := by rw [Int.tdiv_eq_ediv_of_nonneg (by omega)]; exact e5
  have hbd : 4 ≤ s ∧ s ≤ 16 := by omega
  have hm8 : hN s ≤ 8 ∧ 2 ≤ hN s := by omega
  obtain ⟨x1, x2, x3, x4, x5⟩ := gb_lim hz l1 b1
  obtain ⟨y1, y2, y3, -, -⟩ := gb_lim hz l2 b2
  obtain ⟨z1, z2, z3, -, -⟩ := gb_lim hz l3 b3
  have HG1 := hid (fun W v (q : Sl .i64 W v x) => l8Gather_calls (dep s.toNat) v x 67108864 W x4 q x3 b1 x5)
  have HG2 := hid (fun W v (q : Sl .i64 W v y) => l8Gather_calls (dep s.toNat) v y 67108864 W x4 q y3 b2 x5)
  have HG3 := hid (fun W v (q : Sl .i64 W v z) => l8Gather_calls (dep s.toNat) v z 67108864 W x4 q z3 b3 x5)
  have hE : frB s x y z = smB (tbF s.toNat) (hN s) ((gaB (dep s.toNat) x).drop (hN s)) ((gaB (dep s.toNat) y).take (hN s)) ++ smA (tbF s.toNat) (hN s) ((gaB (dep s.toNat) y).drop (hN s)) ((gaB (dep s.toNat) z).take (hN s)) := rfl
  rw [← d1] at HG1 HG2 HG3
  rw [hE]
  generalize gaB (dep s.toNat) x = X at *
  generalize gaB (dep s.toNat) y = Y at *
  generalize gaB (dep s.toNat) z = Z at *
  have lXd : (X.drop (hN s)).length = hN s := by rw [List.length_drop, x1]; omega
  have lYt : (Y.take (hN s)).length = hN s := by rw [List.length_take, y1]; omega
  have lYd : (Y.drop (hN s)).length = hN s := by rw [List.length_drop, y1]; omega
  have lZt : (Z.take (hN s)).length = hN s := by rw [List.length_take, z1]; omega
  have HS1 := hid (fun W u1 u2 (q1 : Sl .i64 W u1 (X.drop (hN s))) (q2 : Sl .i64 W u2 (Y.take (hN s))) => seamBd_calls s u1 u2 _ _ W hz q1 q2 lXd lYt (nlim_drop x2 _) (nlim_take y2 _))
  have HS2 := hid (fun W u1 u2 (q1 : Sl .i64 W u1 (Y.drop (hN s))) (q2 : Sl .i64 W u2 (Z.take (hN s))) => seamBd_calls s u1 u2 _ _ W hz q1 q2 lYd lZt (nlim_drop y2 _) (nlim_take z2 _))
  have HXd := hid (drop_get X (hN s))
  have HYt := hid (take_get Y (hN s))
  have HYd := hid (drop_get Y (hN s))
  have HZt := hid (take_get Z (hN s))
  have HlH : Hid ((smB (tbF s.toNat) (hN s) (X.drop (hN s)) (Y.take (hN s))).length = hN s) := smB_len _ _ _ _
  have HlT : Hid ((smA (tbF s.toNat) (hN s) (Y.drop (hN s)) (Z.take (hN s))).length = hN s) := smA_len _ _ _ _
  have HL := hid (And.intro lXd (And.intro lYt (And.intro lYd lZt)))
  have HX := hid (x1.trans e2)
  have HY := hid (y1.trans e2)
  have HZ := hid (z1.trans e2)
  rw [e2] at HG1 HG2 HG3
  have H1 := hid h1
  have H2 := hid h2
  have H3 := hid h3
  clear hz l1 l2 l3 b1 b2 b3 d1 d2 x1 x2 x3 x4 x5 y1 y2 y3 z1 z2 z3 e1 e2 e3 e4 e5 hE lXd lYt lYd lZt h1 h2 h3
  generalize smB (tbF s.toNat) (hN s) (X.drop (hN s)) (Y.take (hN s)) = F at *
  generalize smA (tbF s.toNat) (hN s) (Y.drop (hN s)) (Z.take (hN s)) = T at *
  generalize smA (tbF s.toNat) (hN s) (X.drop (hN s)) (Y.take (hN s)) = F' at *
  generalize smB (tbF s.toNat) (hN s) (Y.drop (hN s)) (Z.take (hN s)) = T' at *
  generalize hN s = m at *
  generalize X.drop m = Xd at *
  generalize Y.take m = Yt at *
  generalize Y.drop m = Yd at *
  generalize Z.take m = Zt at *
  obtain ⟨n, hn⟩ : ∃ n : Nat, 2 * m = n := ⟨_, rfl⟩
  have HN := hid hn
  have hnm : n - m = m := by omega
  have hmI2 : (m : Int) ≤ (n : Int) := by omega
  have hn16 : n ≤ 16 := by omega
  rw [hn] at HG1 HG2 HG3 HX HY HZ
  clear hn
  obtain ⟨a1, q1, rfl, -⟩ := id H1.out
  obtain ⟨a2, q2, rfl, -⟩ := id H2.out
  obtain ⟨a3, q3, rfl, -⟩ := id H3.out
  go_enter Tryd.func82, Tryd.ntmps82
  go_wp2_with fail
  refine (HG1.out _ _ H1.out).mono ?_
  rintro e w1 ⟨gx, cx, rfl, ho1, hb1⟩
  have HX1 := hid ho1
  have HB1 := hid hb1
  have H21 := hid (H2.out.later hb1)
  have H31 := hid (H3.out.later hb1)
  clear ho1 hb1 HG1 H1 H2 H3
  go_wp2_with fail
  refine (HG2.out _ _ H21.out).mono ?_
  rintro e w2 ⟨gy, cy, rfl, ho2, hb2⟩
  have HX2 := hid (HX1.out.later hb2)
  have HY2 := hid ho2
  have HB2 := hid (bthen HB1.out hb2)
  have H32 := hid (H31.out.later hb2)
  clear ho2 hb2 HG2 HX1 H21 H31 HB1
  go_wp2_with fail
  refine (HG3.out _ _ H32.out).mono ?_
  rintro e w3 ⟨gz, cz, rfl, ho3, hb3⟩
  have HX3 := hid (HX2.out.later hb3)
  have HY3 := hid (HY2.out.later hb3)
  have HZ3 := hid ho3
  have HB3 := hid (bthen HB2.out hb3)
  clear ho3 hb3 HG3 HX2 HY2 H32 HB2
  have hcx : n ≤ cx := HX3.out.fits
  have hcy : n ≤ cy := HY3.out.fits
  have hcz : n ≤ cz := HZ3.out.fits
  have f1 : (m : Int) ≤ (cx : Int) ∧ (n : Int) ≤ (cx : Int) ∧ ¬ cx = m := by omega
  have f2 : (m : Int) ≤ (cy : Int) ∧ (n : Int) ≤ (cy : Int) ∧ ¬ cy = m := by omega
  have f3 : (m : Int) ≤ (cz : Int) ∧ (n : Int) ≤ (cz : Int) ∧ ¬ cz = m := by omega
  obtain ⟨p1, p2, p3⟩ := f1
  obtain ⟨r1, r2, r3⟩ := f2
  obtain ⟨t1, t2, t3⟩ := f3
  have hgx := (HX3.out.block gx rfl).2
  have hgy := (HY3.out.block gy rfl).2
  have hgz := (HZ3.out.block gz rfl).2
  have HXc : Hid (∀ i, i < n → w3.cell? ⟨gx, i, none⟩ = some (.int .i64 (X.getD i 0))) := fun i hi => (HX3.out.cellAt HX.out.symm i (by rw [HX.out]; exact hi)).1
  have HYc : Hid (∀ i, i < n → w3.cell? ⟨gy, i, none⟩ = some (.int .i64 (Y.getD i 0))) := fun i hi => (HY3.out.cellAt HY.out.symm i (by rw [HY.out]; exact hi)).1
  have HZc : Hid (∀ i, i < n → w3.cell? ⟨gz, i, none⟩ = some (.int .i64 (Z.getD i 0))) := fun i hi => (HZ3.out.cellAt HZ.out.symm i (by rw [HZ.out]; exact hi)).1
  have hw3 := HB3.out.size
  clear HX3 HY3 HZ3
  go_wp2_with fail
  have hL1 : Below w3.heap.size w3 w3.drew := (Below.refl _ w3).drew
  refine wp_region_noPanic ?_
  refine wp_region_held_drew (S := fun W => Below w3.heap.size w3 W) (by kernel_rfl) ?_ (fun hHeld => ?_)
  · first | exact hL9 | exact hL1
  (refine wpAnyH_take (i := 0) (v := ?_) rfl (by kernel_rfl) (by kernel_rfl) (by kernel_rfl) (fun _ _ _ h => h) (Or.inl ⟨by rfl, ?_⟩) hHeld ?_; rotate_left; (intro w hSw; (clear hSw); (go_simp <;> with_reducible rfl)); simp only [List.getElem_toArray, List.getElem_cons_zero, Act.put, List.setIfInBounds_toArray, List.set_cons_zero, List.set_cons_succ])
  (refine wpAnyH_take (i := 1) (v := ?_) rfl (by kernel_rfl) (by kernel_rfl) (by kernel_rfl) (fun _ _ _ h => h) (Or.inl ⟨by rfl, ?_⟩) hHeld ?_; rotate_left; (intro w hSw; (clear hSw); (go_simp <;> with_reducible rfl)); simp only [List.getElem_toArray, List.getElem_cons_zero, List.getElem_cons_succ, Act.put, List.setIfInBounds_toArray, List.set_cons_zero, List.set_cons_succ])
  (refine wpAnyH_take (i := 2) (v := ?_) rfl (by kernel_rfl) (by kernel_rfl) (by kernel_rfl) (fun _ _ _ h => h) (Or.inl ⟨by rfl, ?_⟩) hHeld ?_; rotate_left; (intro w hSw; (clear hSw); (go_simp <;> with_reducible rfl)); simp only [List.getElem_toArray, List.getElem_cons_zero, List.getElem_cons_succ, Act.put, List.setIfInBounds_toArray, List.set_cons_zero, List.set_cons_succ])
  (refine wpAnyH_take (i := 3) (v := ?_) rfl (by kernel_rfl) (by kernel_rfl) (by kernel_rfl) (fun _ _ _ h => h) (Or.inl ⟨by rfl, ?_⟩) hHeld ?_; rotate_left; (intro w hSw; (clear hSw); (go_simp <;> with_reducible rfl)); simp only [List.getElem_toArray, List.getElem_cons_zero, List.getElem_cons_succ, Act.put, List.setIfInBounds_toArray, List.set_cons_zero, List.set_cons_succ])
  (refine wpAnyH_take (i := 4) (v := ?_) rfl (by kernel_rfl) (by kernel_rfl) (by kernel_rfl) (fun _ _ _ h => h) (Or.inl ⟨by rfl, ?_⟩) hHeld ?_; rotate_left; (intro w hSw; (clear hSw); (go_simp <;> with_reducible rfl)); simp only [List.getElem_toArray, List.getElem_cons_zero, List.getElem_cons_succ, Act.put, List.setIfInBounds_toArray, List.set_cons_zero, List.set_cons_succ])
  (refine wpAnyH_take (i := 5) (v := ?_) rfl (by kernel_rfl) (by kernel_rfl) (by kernel_rfl) (fun _ _ _ h => h) (Or.inl ⟨by rfl, ?_⟩) hHeld ?_; rotate_left; (intro w hSw; (clear hSw); (go_simp <;> with_reducible rfl)); simp only [List.getElem_toArray, List.getElem_cons_zero, List.getElem_cons_succ, Act.put, List.setIfInBounds_toArray, List.set_cons_zero, List.set_cons_succ])
  (refine wpAnyH_take (i := 6) (v := ?_) rfl (by kernel_rfl) (by kernel_rfl) (by kernel_rfl) (fun _ _ _ h => h) (Or.inl ⟨by rfl, ?_⟩) hHeld ?_; rotate_left; (intro w hSw; (clear hSw); (go_simp <;> with_reducible rfl)); simp only [List.getElem_toArray, List.getElem_cons_zero, List.getElem_cons_succ, Act.put, List.setIfInBounds_toArray, List.set_cons_zero, List.set_cons_succ])
  (refine wpAnyH_ready (rs := [7]) (by kernel_rfl) (by simp) ?_; refine AllReadyH.cons rfl (fun K hK => ?_) AllReadyH.nil; go_simp; (refine (HS1.out _ _ _ (sl_cells HL.out.1 (Nat.lt_of_lt_of_le hgx hHeld.size) (fun i hi => by rw [hHeld.cell (p := ⟨gx, m + i, none⟩) hgx, HXc.out (m + i) (by omega), HXd.out i])) (sl_cells HL.out.2.1 (Nat.lt_of_lt_of_le hgy hHeld.size) (fun i hi => by rw [Nat.zero_add, hHeld.cell (p := ⟨gy, i, none⟩) hgy, HYc.out i (by omega), HYt.out i, if_pos hi]))).mono ?_; rintro e w9 ⟨ga, gb, rfl, hk9⟩; have hL9 := bthen hHeld hk9.b); refine hK.out _ _ ?_ (fun hHeld => ?_); (first | exact hL9 | exact hL1); clear hK K; try dsimp only)
  (refine wpAnyH_take (i := 8) (v := ?_) rfl (by kernel_rfl) (by kernel_rfl) (by kernel_rfl) (fun _ _ _ h => h) (Or.inl ⟨by rfl, ?_⟩) hHeld ?_; rotate_left; (intro w hSw; (clear hSw); (go_simp <;> with_reducible rfl)); simp only [List.getElem_toArray, List.getElem_cons_zero, List.getElem_cons_succ, Act.put, List.setIfInBounds_toArray, List.set_cons_zero, List.set_cons_succ])
  (refine wpAnyH_take (i := 9) (v := ?_) rfl (by kernel_rfl) (by kernel_rfl) (by kernel_rfl) (fun _ _ _ h => h) (Or.inl ⟨by rfl, ?_⟩) hHeld ?_; rotate_left; (intro w hSw; (clear hSw); (go_simp <;> with_reducible rfl)); simp only [List.getElem_toArray, List.getElem_cons_zero, List.getElem_cons_succ, Act.put, List.setIfInBounds_toArray, List.set_cons_zero, List.set_cons_succ])
  (refine wpAnyH_take (i := 10) (v := ?_) rfl (by kernel_rfl) (by kernel_rfl) (by kernel_rfl) (fun _ _ _ h => h) (Or.inl ⟨by rfl, ?_⟩) hHeld ?_; rotate_left; (intro w hSw; (clear hSw); (go_simp <;> with_reducible rfl)); simp only [List.getElem_toArray, List.getElem_cons_zero, List.getElem_cons_succ, Act.put, List.setIfInBounds_toArray, List.set_cons_zero, List.set_cons_succ])
  (refine wpAnyH_take (i := 11) (v := ?_) rfl (by kernel_rfl) (by kernel_rfl) (by kernel_rfl) (fun _ _ _ h => h) (Or.inl ⟨by rfl, ?_⟩) hHeld ?_; rotate_left; (intro w hSw; (clear hSw); (go_simp <;> with_reducible rfl)); simp only [List.getElem_toArray, List.getElem_cons_zero, List.getElem_cons_succ, Act.put, List.setIfInBounds_toArray, List.set_cons_zero, List.set_cons_succ])
  (refine wpAnyH_take (i := 12) (v := ?_) rfl (by kernel_rfl) (by kernel_rfl) (by kernel_rfl) (fun _ _ _ h => h) (Or.inl ⟨by rfl, ?_⟩) hHeld ?_; rotate_left; (intro w hSw; (clear hSw); (go_simp <;> with_reducible rfl)); simp only [List.getElem_toArray, List.getElem_cons_zero, List.getElem_cons_succ, Act.put, List.setIfInBounds_toArray, List.set_cons_zero, List.set_cons_succ])
  refine wpAnyH_done (by kernel_rfl) ?_ _
  refine NoPanic.normal ?_
  have HF9 := hid hk9.d
  have HL9 := hid hL9
  have hz9 := hL9.size
  have hgb := (hk9.d.block gb rfl).2
  clear hHeld hL1 hL9 hk9 HS1
  go_wp2_with fail
  have hL1 : Below w9.heap.size w9 w9.drew := (Below.refl _ w9).drew
  refine wp_region_noPanic ?_
  refine wp_region_held_drew (S := fun W => Below w9.heap.size w9 W) (by kernel_rfl) ?_ (fun hHeld => ?_)
  · first | exact hL13 | exact hL1
  (refine wpAnyH_take (i := 0) (v := ?_) rfl (by kernel_rfl) (by kernel_rfl) (by kernel_rfl) (fun _ _ _ h => h) (Or.inl ⟨by rfl, ?_⟩) hHeld ?_; rotate_left; (intro w hSw; (clear hSw); (go_simp <;> with_reducible rfl)); simp only [List.getElem_toArray, List.getElem_cons_zero, Act.put, List.setIfInBounds_toArray, List.set_cons_zero, List.set_cons_succ])
  (refine wpAnyH_take (i := 1) (v := ?_) rfl (by kernel_rfl) (by kernel_rfl) (by kernel_rfl) (fun _ _ _ h => h) (Or.inl ⟨by rfl, ?_⟩) hHeld ?_; rotate_left; (intro w hSw; (clear hSw); (go_simp <;> with_reducible rfl)); simp only [List.getElem_toArray, List.getElem_cons_zero, List.getElem_cons_succ, Act.put, List.setIfInBounds_toArray, List.set_cons_zero, List.set_cons_succ])
  (refine wpAnyH_take (i := 2) (v := ?_) rfl (by kernel_rfl) (by kernel_rfl) (by kernel_rfl) (fun _ _ _ h => h) (Or.inl ⟨by rfl, ?_⟩) hHeld ?_; rotate_left; (intro w hSw; (clear hSw); (go_simp <;> with_reducible rfl)); simp only [List.getElem_toArray, List.getElem_cons_zero, List.getElem_cons_succ, Act.put, List.setIfInBounds_toArray, List.set_cons_zero, List.set_cons_succ])
  (refine wpAnyH_take (i := 3) (v := ?_) rfl (by kernel_rfl) (by kernel_rfl) (by kernel_rfl) (fun _ _ _ h => h) (Or.inl ⟨by rfl, ?_⟩) hHeld ?_; rotate_left; (intro w hSw; (clear hSw); (go_simp <;> with_reducible rfl)); simp only [List.getElem_toArray, List.getElem_cons_zero, List.getElem_cons_succ, Act.put, List.setIfInBounds_toArray, List.set_cons_zero, List.set_cons_succ])
  (refine wpAnyH_take (i := 4) (v := ?_) rfl (by kernel_rfl) (by kernel_rfl) (by kernel_rfl) (fun _ _ _ h => h) (Or.inl ⟨by rfl, ?_⟩) hHeld ?_; rotate_left; (intro w hSw; (clear hSw); (go_simp <;> with_reducible rfl)); simp only [List.getElem_toArray, List.getElem_cons_zero, List.getElem_cons_succ, Act.put, List.setIfInBounds_toArray, List.set_cons_zero, List.set_cons_succ])
  (refine wpAnyH_take (i := 5) (v := ?_) rfl (by kernel_rfl) (by kernel_rfl) (by kernel_rfl) (fun _ _ _ h => h) (Or.inl ⟨by rfl, ?_⟩) hHeld ?_; rotate_left; (intro w hSw; (clear hSw); (go_simp <;> with_reducible rfl)); simp only [List.getElem_toArray, List.getElem_cons_zero, List.getElem_cons_succ, Act.put, List.setIfInBounds_toArray, List.set_cons_zero, List.set_cons_succ])
  (refine wpAnyH_take (i := 6) (v := ?_) rfl (by kernel_rfl) (by kernel_rfl) (by kernel_rfl) (fun _ _ _ h => h) (Or.inl ⟨by rfl, ?_⟩) hHeld ?_; rotate_left; (intro w hSw; (clear hSw); (go_simp <;> with_reducible rfl)); simp only [List.getElem_toArray, List.getElem_cons_zero, List.getElem_cons_succ, Act.put, List.setIfInBounds_toArray, List.set_cons_zero, List.set_cons_succ])
  (refine wpAnyH_ready (rs := [7]) (by kernel_rfl) (by simp) ?_; refine AllReadyH.cons rfl (fun K hK => ?_) AllReadyH.nil; go_simp; (have hL3 := bthen HL9.out hHeld; refine (HS2.out _ _ _ (sl_cells HL.out.2.2.1 (Nat.lt_of_lt_of_le hgy hL3.size) (fun i hi => by rw [hL3.cell (p := ⟨gy, m + i, none⟩) hgy, HYc.out (m + i) (by omega), HYd.out i])) (sl_cells HL.out.2.2.2 (Nat.lt_of_lt_of_le hgz hL3.size) (fun i hi => by rw [Nat.zero_add, hL3.cell (p := ⟨gz, i, none⟩) hgz, HZc.out i (by omega), HZt.out i, if_pos hi]))).mono ?_; rintro e w13 ⟨gc, gd, rfl, hk13⟩; have hL13 := bthen hHeld hk13.b); refine hK.out _ _ ?_ (fun hHeld => ?_); (first | exact hL13 | exact hL1); clear hK K; try dsimp only)
  (refine wpAnyH_take (i := 8) (v := ?_) rfl (by kernel_rfl) (by kernel_rfl) (by kernel_rfl) (fun _ _ _ h => h) (Or.inl ⟨by rfl, ?_⟩) hHeld ?_; rotate_left; (intro w hSw; (clear hSw); (go_simp <;> with_reducible rfl)); simp only [List.getElem_toArray, List.getElem_cons_zero, List.getElem_cons_succ, Act.put, List.setIfInBounds_toArray, List.set_cons_zero, List.set_cons_succ])
  (refine wpAnyH_take (i := 9) (v := ?_) rfl (by kernel_rfl) (by kernel_rfl) (by kernel_rfl) (fun _ _ _ h => h) (Or.inl ⟨by rfl, ?_⟩) hHeld ?_; rotate_left; (intro w hSw; (clear hSw); (go_simp <;> with_reducible rfl)); simp only [List.getElem_toArray, List.getElem_cons_zero, List.getElem_cons_succ, Act.put, List.setIfInBounds_toArray, List.set_cons_zero, List.set_cons_succ])
  (refine wpAnyH_take (i := 10) (v := ?_) rfl (by kernel_rfl) (by kernel_rfl) (by kernel_rfl) (fun _ _ _ h => h) (Or.inl ⟨by rfl, ?_⟩) hHeld ?_; rotate_left; (intro w hSw; (clear hSw); (go_simp <;> with_reducible rfl)); simp only [List.getElem_toArray, List.getElem_cons_zero, List.getElem_cons_succ, Act.put, List.setIfInBounds_toArray, List.set_cons_zero, List.set_cons_succ])
  (refine wpAnyH_take (i := 11) (v := ?_) rfl (by kernel_rfl) (by kernel_rfl) (by kernel_rfl) (fun _ _ _ h => h) (Or.inl ⟨by rfl, ?_⟩) hHeld ?_; rotate_left; (intro w hSw; (clear hSw); (go_simp <;> with_reducible rfl)); simp only [List.getElem_toArray, List.getElem_cons_zero, List.getElem_cons_succ, Act.put, List.setIfInBounds_toArray, List.set_cons_zero, List.set_cons_succ])
  (refine wpAnyH_take (i := 12) (v := ?_) rfl (by kernel_rfl) (by kernel_rfl) (by kernel_rfl) (fun _ _ _ h => h) (Or.inl ⟨by rfl, ?_⟩) hHeld ?_; rotate_left; (intro w hSw; (clear hSw); (go_simp <;> with_reducible rfl)); simp only [List.getElem_toArray, List.getElem_cons_zero, List.getElem_cons_succ, Act.put, List.setIfInBounds_toArray, List.set_cons_zero, List.set_cons_succ])
  refine wpAnyH_done (by kernel_rfl) ?_ _
  refine NoPanic.normal ?_
  have hF13 := (HF9.out.mono (show w.heap.size ≤ _ from hw3)).later hL13
  have hB13 := bthen (bthen HB3.out HL9.out) hL13
  have hTc : ∀ i, i < m → w13.drew.cell? ⟨gc, 0 + i, none⟩ = some (.int .i64 (T.getD i 0)) := fun i hi => by rw [Nat.zero_add]; exact (hk13.s.cellAt HlT.out.symm i (by rw [HlT.out]; exact hi)).1
  have hz13 := hL13.size
  have HF13 := hid hF13
  have HB13 := hid hB13
  have HTc := hid hTc
  have HlF := HlH
  have hgb2 := hF13.block gb rfl
  clear hHeld hL1 hL13 hk13 HS2 hF13 hB13 hTc HXc HYc HZc HXd HYd HYt HZt HL HF9 HL9
  have hs13 := HB13.out.size
  obtain ⟨gk, ck, w14, hrun, ho14, hg14⟩ := app_list (c := m) 30 HF13.out hs13 (by rw [HlF.out]; omega) HlT.out (by omega) HTc.out
  rw [HlF.out] at hrun ho14
  have HO := hid ho14
  have HBb := hid (HB13.out.trans (below_of_grown hg14 hs13 (fun j e => by simp [Value.ownBlock] at e; omega)))
  clear HF13 HB13 HTc ho14 hg14
  go_wp2_with (at_builtin; refine Lib.wpList_append_run _ rfl _ _ _ _ rfl _ _ rfl rfl _ _ hrun ?_)
  go_ret
  exact ⟨gk, ck, rfl, HO.out, HBb.out⟩
theorem fr_no {s : Int} {x y z : List Int} (h : szF s = 0) (hl : ¬ ((x.length : Int) = s ∧ (y.length : Int) = s ∧ (z.length : Int) = s)) : frC s x y z = 2 := by unfold frC; rw [if_pos h, if_neg hl]
theorem fr_yes {s : Int} {x y z : List Int} (h : szF s = 0) (hl : (x.length : Int) = s ∧ (y.length : Int) = s ∧ (z.length : Int) = s) : frC s x y z = if gbdC x = 0 then (if gbdC y = 0 then gbdC z else gbdC y) else gbdC x := by unfold frC; rw [if_pos h, if_pos hl]
set_option maxHeartbeats 4000000 in
theorem specFrameBounds_calls (s : Int) (v1 v2 v3 : Value) (x y z : List Int) (w : World) (h1 : Sl .i64 w v1 x) (h2 : Sl .i64 w v2 y) (h3 : Sl .i64 w v3 z) (m1 : x.length ≤ 1048576) (m2 : y.length ≤ 1048576) (m3 : z.length ≤ 1048576) :
    Calls Tryd.prog 30 #[.int .i64 s, v1, v2, v3] w fun e w' => ∃ u, e = .returned (.agg #[.int .i64 (frC s x y z), u]) ∧ OwI w.heap.size w' u (frL s x y z) ∧ Below w.heap.size w w' := by
  have HS := hid (specSizeFault_calls s)
  have HA1 := hid (fun W (q : Sl .i64 W v1 x) => l8Ask_calls v1 x W q m1)
  have HA2 := hid (fun W (q : Sl .i64 W v2 y) => l8Ask_calls v2 y W q m2)
  have HA3 := hid (fun W (q : Sl .i64 W v3 z) => l8Ask_calls v3 z W q m3)
  have HN : Hid (∀ (W : World) (c : Int), frC s x y z = c → c ≠ 0 → Below w.heap.size w W → ∃ u, Ending.returned (.agg #[.int .i64 c, .slice none 0 0]) = .returned (.agg #[.int .i64 (frC s x y z), u]) ∧ OwI w.heap.size W u (frL s x y z) ∧ Below w.heap.size w W) :=
    fun W c e1 e2 hb => ⟨_, by rw [e1], by rw [show frL s x y z = [] from if_neg (by rw [e1]; exact e2)]; exact ow_nil _ _, hb⟩
  have hb0 := bmore (Below.refl _ w) (.cells #[.int .i64 0, .slice none 0 0] 35)
  have HB0 := hid hb0
  have HR0 := hid (Blk.new w #[.int .i64 0, .slice none 0 0] 35)
  have H1 := hid (h1.later hb0)
  have H2 := hid (h2.later hb0)
  have H3 := hid (h3.later hb0)
  obtain ⟨a1, c1, rfl, -⟩ := id h1
  obtain ⟨a2, c2, rfl, -⟩ := id h2
  obtain ⟨a3, c3, rfl, -⟩ := id h3
  clear h1 h2 h3 hb0
  have hlt0 : w.heap.size < (w.alloc (.cells #[.int .i64 0, .slice none 0 0] 35)).heap.size := by simp
  obtain ⟨r0, r1, q0, q1⟩ := HR0.out.two
  by_cases hz : szF s = 0
  · by_cases hl : (x.length : Int) = s ∧ (y.length : Int) = s ∧ (z.length : Int) = s
    · have hF := fr_yes hz hl
      have k1 : ((x.length : Int) != s) = false := by rw [hl.1]; simp
      have k2 : ((y.length : Int) != s) = false := by rw [hl.2.1]; simp
      have k3 : ((z.length : Int) != s) = false := by rw [hl.2.2]; simp
      rw [hz] at HS
      by_cases g1 : gbdC x = 0
      · rw [if_pos g1] at hF
        rw [g1] at HA1
        by_cases g2 : gbdC y = 0
        · rw [if_pos g2] at hF
          rw [g2] at HA2
          by_cases g3 : gbdC z = 0
          · rw [g3] at HA3 hF
            have HFr := hid (fun W (p1 : Sl .i64 W (.slice a1 x.length c1) x) (p2 : Sl .i64 W (.slice a2 y.length c2) y) (p3 : Sl .i64 W (.slice a3 z.length c3) z) => l8Frame_calls s _ _ _ x y z W hz p1 p2 p3 (by omega) (by omega) (by omega) (gbd_ok g1).2 (gbd_ok g2).2 (gbd_ok g3).2)
            have HL : Hid (frL s x y z = frB s x y z) := if_pos hF
            rw [hF]
            clear hz hl hF g1 g2 g3 HN
            generalize hN s + hN s = q at *
            go_enter Tryd.func30, Tryd.ntmps30
            go_wp2_with fail
            refine (HS.out _).mono ?_
            rintro e w' ⟨rfl, rfl⟩
            go_wp2_with fail
            refine (HA1.out _ H1.out).mono ?_
            rintro e w' ⟨rfl, rfl⟩
            go_wp2_with fail
            refine (HA2.out _ H2.out).mono ?_
            rintro e w' ⟨rfl, rfl⟩
            go_wp2_with fail
            refine (HA3.out _ H3.out).mono ?_
            rintro e w' ⟨rfl, rfl⟩
            go_wp2_with fail
            refine (HFr.out _ H1.out H2.out H3.out).mono ?_
            rintro e w1 ⟨g, cp, rfl, ho, hb⟩
            have HLb := hid (bthen HB0.out hb)
            have HO := hid (App.Ow.mono (BloS.Ow.over ho (by simp) (grown_set2 w1 w.heap.size (.int .i64 0) (.slice (some ⟨g, 0, none⟩) q cp))) (show w.heap.size ≤ _ by simp))
            obtain ⟨r0, r1, q0, q1⟩ := (HR0.out.later hb).two
            clear ho hb HFr HR0 HB0
            go_wp2
            exact bodyPost_ret (v := .agg #[.int .i64 0, .slice (some ⟨g, 0, none⟩) q cp]) (by simp [results, Tryd.results30, go_sem, r0, r1]) rfl ⟨_, rfl, by rw [HL.out]; exact HO.out, below_cell (below_cell HLb.out (Nat.le_refl _) _ _) (Nat.le_refl _) _ _⟩
          · have HE := hid (fun W hb => HN.out W (gbdC z) hF g3 hb)
            have kb : (gbdC z != 0) = true := by simpa using g3
            clear hz hl hF g1 g2 g3 HN
            generalize gbdC z = c at *
            go_enter Tryd.func30, Tryd.ntmps30
            go_wp2_with fail
            refine (HS.out _).mono ?_
            rintro e w' ⟨rfl, rfl⟩
            go_wp2_with fail
            refine (HA1.out _ H1.out).mono ?_
            rintro e w' ⟨rfl, rfl⟩
            go_wp2_with fail
            refine (HA2.out _ H2.out).mono ?_
            rintro e w' ⟨rfl, rfl⟩
            go_wp2_with fail
            refine (HA3.out _ H3.out).mono ?_
            rintro e w' ⟨rfl, rfl⟩
            go_wp2
            exact bodyPost_ret (v := .agg #[.int .i64 c, .slice none 0 0]) (by simp [results, Tryd.results30, go_sem]) rfl (HE.out _ (bmore (Below.refl _ _) _))
        · rw [if_neg g2] at hF
          have HE := hid (fun W hb => HN.out W (gbdC y) hF g2 hb)
          have kb : (gbdC y != 0) = true := by simpa using g2
          clear hz hl hF g1 g2 HN HA3
          generalize gbdC y = c at *
          go_enter Tryd.func30, Tryd.ntmps30
          go_wp2_with fail
          refine (HS.out _).mono ?_
          rintro e w' ⟨rfl, rfl⟩
          go_wp2_with fail
          refine (HA1.out _ H1.out).mono ?_
          rintro e w' ⟨rfl, rfl⟩
          go_wp2_with fail
          refine (HA2.out _ H2.out).mono ?_
          rintro e w' ⟨rfl, rfl⟩
          go_wp2
          exact bodyPost_ret (v := .agg #[.int .i64 c, .slice none 0 0]) (by simp [results, Tryd.results30, go_sem]) rfl (HE.out _ (bmore (Below.refl _ _) _))
      · rw [if_neg g1] at hF
        have HE := hid (fun W hb => HN.out W (gbdC x) hF g1 hb)
        have kb : (gbdC x != 0) = true := by simpa using g1
        clear hz hl hF g1 HN HA3 HA2
        generalize gbdC x = c at *
        go_enter Tryd.func30, Tryd.ntmps30
        go_wp2_with fail
        refine (HS.out _).mono ?_
        rintro e w' ⟨rfl, rfl⟩
        go_wp2_with fail
        refine (HA1.out _ H1.out).mono ?_
        rintro e w' ⟨rfl, rfl⟩
        go_wp2
        exact bodyPost_ret (v := .agg #[.int .i64 c, .slice none 0 0]) (by simp [results, Tryd.results30, go_sem]) rfl (HE.out _ (bmore (Below.refl _ _) _))
    · have HE := hid (fun W hb => HN.out W 2 (fr_no hz hl) (by decide) hb)
      rw [hz] at HS
      clear HN HA1 HA2 HA3 hz
      have hl3 : ((x.length : Int) != s) = true ∨ (((x.length : Int) != s) = false ∧ ((y.length : Int) != s) = true) ∨ (((x.length : Int) != s) = false ∧ ((y.length : Int) != s) = false ∧ ((z.length : Int) != s) = true) := by
        simp only [bne_iff_ne, bne_eq_false_iff_eq, ne_eq]; omega
      clear hl
      rcases hl3 with k1 | ⟨k1, k2⟩ | ⟨k1, k2, k3⟩
      all_goals
        go_enter Tryd.func30, Tryd.ntmps30
        go_wp2_with fail
        refine (HS.out _).mono ?_
        rintro e w' ⟨rfl, rfl⟩
        go_wp2
        exact bodyPost_ret (v := .agg #[.int .i64 2, .slice none 0 0]) (by simp [results, Tryd.results30, go_sem]) rfl (HE.out _ (bmore (Below.refl _ _) _))
  · have h3 : szF s = 3 := by
      rcases sz_03 s with e | e
      · exact absurd e hz
      · exact e
    have HE := hid (fun W hb => HN.out W 3 (by unfold frC; rw [if_neg hz]) (by decide) hb)
    rw [h3] at HS
    clear HN HA1 HA2 HA3 hz h3
    go_enter Tryd.func30, Tryd.ntmps30
    go_wp2_with fail
    refine (HS.out _).mono ?_
    rintro e w' ⟨rfl, rfl⟩
    go_wp2
    exact bodyPost_ret (v := .agg #[.int .i64 3, .slice none 0 0]) (by simp [results, Tryd.results30, go_sem]) rfl (HE.out _ (bmore (Below.refl _ _) _))
end Go.Proofs.YtbakmphopgkpmaaDoor.BndF
