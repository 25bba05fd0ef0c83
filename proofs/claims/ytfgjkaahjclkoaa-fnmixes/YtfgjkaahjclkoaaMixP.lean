/- MixPair and PartPair, the program's and the model's: what they return at every argument. No conditions. -/
import Derived.Test.YtfgjkaahjclkoaaPar
import Derived.Deep.RegionHeld3
import Derived.Deep.CutBlock
import Derived.Deep.DeepCutAuto
namespace Go.Proofs.Ytfgjkaahjclkoaa.MixP
open Go.ChangeShapes Go.WideShapes Go.ChangeAt Go.RowKit Go.Proofs.Ytfgjkaahjclkoaa.Num Go.Proofs.Ytfgjkaahjclkoaa.Sli Go.Proofs.Ytfgjkaahjclkoaa.Div Go.Proofs.Ytfgjkaahjclkoaa.Samp Go.Proofs.Ytfgjkaahjclkoaa.Blk Go.Proofs.Ytfgjkaahjclkoaa.TurM Go.Proofs.Ytfgjkaahjclkoaa.Par

/-- What mixed and parted keep: the pair's block, the answer's block. -/
structure KM (w : World) (a b : Int) (W : World) : Prop where
  v : Blk W w.heap.size #[.int .i64 a, .int .i64 b] 38
  r : Blk W (w.heap.size + 1) #[.int .i64 0, .int .i64 0] 38
  b : Below w.heap.size w W
theorem KM.drew {w W : World} {a b : Int} (h : KM w a b W) : KM w a b W.drew := ⟨h.v, h.r, h.b.drew⟩
theorem KM.new (w : World) (a b : Int) : KM w a b ((w.alloc (.cells #[.int .i64 a, .int .i64 b] 38)).alloc (.cells #[.int .i64 0, .int .i64 0] 38)) := by
  obtain ⟨h1, h2, h3, _⟩ := boxes2 (w := w) (A := #[.int .i64 a, .int .i64 b]) (B := #[.int .i64 0, .int .i64 0]) (t := 38) (u := 38) (Below.refl _ _)
  exact ⟨h1, h2, h3⟩

set_option maxHeartbeats 1000000 in
theorem mixed_calls (a b : Int) (w : World) (ha : -137438953472 ≤ a ∧ a ≤ 137438953472) (hb : -137438953472 ≤ b ∧ b ≤ 137438953472) :
    Calls Try.prog 15 #[.agg #[.int .i64 a, .int .i64 b]] w fun e w' => e = .returned (.agg #[.int .i64 (b + (a - b) / 2), .int .i64 (a - b)]) ∧ Below w.heap.size w w' := by
  have HF := hid floor_calls
  have hK := hid (KM.new w a b)
  have hd : -274877906944 ≤ a - b ∧ a - b ≤ 274877906944 := by omega
  have hq : -274877906944 ≤ (a - b) / 2 ∧ (a - b) / 2 ≤ 274877906944 := by omega
  have e2 : IntKind.i64.wrap (b + (a - b) / 2) = b + (a - b) / 2 := wrapk_of (by omega) (by omega)
  go_enter Try.func15, Try.ntmps15
  go_upto_region 2 with fail
  generalize ((w.alloc (.cells #[.int .i64 a, .int .i64 b] 38)).alloc (.cells #[.int .i64 0, .int .i64 0] 38)) = wr at *
  generalize hde : a - b = d at *
  have HE := hid hde
  clear hde
  obtain ⟨c0, c1, f0, f1⟩ := hK.out.v.two
  obtain ⟨d0, d1, g0, g1⟩ := hK.out.r.two
  have hz := hK.out.r.lt
  have x1 : ((wr.setCell ⟨w.heap.size + 1, 0, none⟩ (.int .i64 (b + d / 2))).setCell ⟨w.heap.size + 1, 1, none⟩ (.int .i64 d)).drew.cell? ⟨w.heap.size, 1, none⟩ = some (.int .i64 b) := ((hK.out.v.other (by omega) _ _).other (by omega) _ _).cell 1
  refine wp_region_noPanic ?_
  refine wp_region_held_drew (S := fun W => W.cell? ⟨w.heap.size, 1, none⟩ = some (.int .i64 b)) (by kernel_rfl) (by first | exact c1 | exact x1) (fun hHeld => ?_)
  (refine wpAnyH_take (i := 0) (v := ?_) rfl (by kernel_rfl) (by kernel_rfl) (by kernel_rfl) (fun _ _ _ h => h) (Or.inl ⟨by rfl, ?_⟩) hHeld ?_; rotate_left; (intro w hSw; (have s0 := hSw); (go_simp <;> with_reducible rfl)); simp only [List.getElem_toArray, List.getElem_cons_zero, Act.put, List.setIfInBounds_toArray, List.set_cons_zero, List.set_cons_succ])
  (refine wpAnyH_take (i := 1) (v := ?_) rfl (by kernel_rfl) (by kernel_rfl) (by kernel_rfl) (fun _ _ _ h => h) (Or.inl ⟨by rfl, ?_⟩) hHeld ?_; rotate_left; (intro w hSw; (have s0 := hSw); (go_simp <;> with_reducible rfl)); simp only [List.getElem_toArray, List.getElem_cons_zero, List.getElem_cons_succ, Act.put, List.setIfInBounds_toArray, List.set_cons_zero, List.set_cons_succ])
  (refine wpAnyH_take (i := 2) (v := ?_) rfl (by kernel_rfl) (by kernel_rfl) (by kernel_rfl) (fun _ _ _ h => h) (Or.inl ⟨by rfl, ?_⟩) hHeld ?_; rotate_left; (intro w hSw; (have s0 := hSw); (go_simp <;> with_reducible rfl)); simp only [List.getElem_toArray, List.getElem_cons_zero, List.getElem_cons_succ, Act.put, List.setIfInBounds_toArray, List.set_cons_zero, List.set_cons_succ])
  (refine wpAnyH_take (i := 5) (v := ?_) rfl (by kernel_rfl) (by kernel_rfl) (by kernel_rfl) (fun _ _ _ h => h) (Or.inl ⟨by rfl, ?_⟩) hHeld ?_; rotate_left; (intro w hSw; (have s0 := hSw); (go_simp <;> with_reducible rfl)); simp only [List.getElem_toArray, List.getElem_cons_zero, List.getElem_cons_succ, Act.put, List.setIfInBounds_toArray, List.set_cons_zero, List.set_cons_succ])
  refine wpAnyH_ready (rs := [3]) (by kernel_rfl) (by simp) ?_
  refine (AllReadyH.cons rfl (fun K hK => ?_) AllReadyH.nil)
  go_simp
  (refine (HF.out _ _ _ (by omega) (by omega) (by omega)).mono ?_; rintro e W2 ⟨rfl, rfl⟩)
  refine hK.out _ _ (by first | exact c1 | exact x1) (fun hHeld => ?_)
  clear hK K
  try dsimp only
  (refine wpAnyH_take (i := 4) (v := ?_) rfl (by kernel_rfl) (by kernel_rfl) (by kernel_rfl) (fun _ _ _ h => h) (Or.inl ⟨by rfl, ?_⟩) hHeld ?_; rotate_left; (intro w hSw; (have s0 := hSw); (go_simp <;> with_reducible rfl)); simp only [List.getElem_toArray, List.getElem_cons_zero, List.getElem_cons_succ, Act.put, List.setIfInBounds_toArray, List.set_cons_zero, List.set_cons_succ])
  (refine wpAnyH_take (i := 6) (v := ?_) rfl (by kernel_rfl) (by kernel_rfl) (by kernel_rfl) (fun _ _ _ h => h) (Or.inl ⟨by rfl, ?_⟩) hHeld ?_; rotate_left; (intro w hSw; (have s0 := hSw); (go_simp <;> with_reducible rfl)); simp only [List.getElem_toArray, List.getElem_cons_zero, List.getElem_cons_succ, Act.put, List.setIfInBounds_toArray, List.set_cons_zero, List.set_cons_succ])
  refine wpAnyH_ready (rs := [7]) (by kernel_rfl) (by simp) ?_
  refine (AllReadyH.cons rfl (fun K hK => ?_) AllReadyH.nil)
  go_simp
  skip
  refine hK.out _ _ (by first | exact c1 | exact x1) (fun hHeld => ?_)
  clear hK K
  try simp only [List.getElem_toArray, List.getElem_cons_zero, List.getElem_cons_succ, Act.put, List.setIfInBounds_toArray, List.set_cons_zero, List.set_cons_succ]
  refine wpAnyH_done (by kernel_rfl) ?_ _
  refine NoPanic.normal ?_
  go_wp2
  exact bodyPost_ret (v := .agg #[.int .i64 (b + d / 2), .int .i64 d]) (by simp [results, Try.results15, go_sem, d0, d1]) rfl ⟨by rw [HE.out], (below_cell (below_cell hK.out.b (by omega) _ _) (by omega) _ _).drew⟩
set_option maxHeartbeats 1000000 in
theorem parted_calls (a b : Int) (w : World) (ha : -137438953472 ≤ a ∧ a ≤ 137438953472) (hb : -137438953472 ≤ b ∧ b ≤ 137438953472) :
    Calls Try.prog 16 #[.agg #[.int .i64 a, .int .i64 b]] w fun e w' => e = .returned (.agg #[.int .i64 ((a - b / 2) + b), .int .i64 (a - b / 2)]) ∧ Below w.heap.size w w' := by
  have HF := hid floor_calls
  have hK := hid (KM.new w a b)
  have hq : -274877906944 ≤ b / 2 ∧ b / 2 ≤ 274877906944 := by omega
  have e2 : IntKind.i64.wrap (a - b / 2) = a - b / 2 := wrapk_of (by omega) (by omega)
  go_enter Try.func16, Try.ntmps16
  go_upto_region 1 with fail
  generalize ((w.alloc (.cells #[.int .i64 a, .int .i64 b] 38)).alloc (.cells #[.int .i64 0, .int .i64 0] 38)) = wr at *
  obtain ⟨c0, c1, f0, f1⟩ := hK.out.v.two
  have hv := hK.out.drew
  refine wp_region_noPanic ?_
  refine wp_region_held_drew (S := fun W => KM w a b W) (by kernel_rfl) ?_ (fun hHeld => ?_)
  · first | exact hv | assumption
  (refine wpAnyH_take (i := 0) (v := ?_) rfl (by kernel_rfl) (by kernel_rfl) (by kernel_rfl) (fun _ _ _ h => h) (Or.inl ⟨by rfl, ?_⟩) hHeld ?_; rotate_left; (intro w hSw; (obtain ⟨s0, s1, _⟩ := hSw.v.two; clear hSw); (go_simp <;> with_reducible rfl)); simp only [List.getElem_toArray, List.getElem_cons_zero, Act.put, List.setIfInBounds_toArray, List.set_cons_zero, List.set_cons_succ])
  (refine wpAnyH_take (i := 1) (v := ?_) rfl (by kernel_rfl) (by kernel_rfl) (by kernel_rfl) (fun _ _ _ h => h) (Or.inl ⟨by rfl, ?_⟩) hHeld ?_; rotate_left; (intro w hSw; (obtain ⟨s0, s1, _⟩ := hSw.v.two; clear hSw); (go_simp <;> with_reducible rfl)); simp only [List.getElem_toArray, List.getElem_cons_zero, List.getElem_cons_succ, Act.put, List.setIfInBounds_toArray, List.set_cons_zero, List.set_cons_succ])
  (refine wpAnyH_take (i := 2) (v := ?_) rfl (by kernel_rfl) (by kernel_rfl) (by kernel_rfl) (fun _ _ _ h => h) (Or.inl ⟨by rfl, ?_⟩) hHeld ?_; rotate_left; (intro w hSw; (obtain ⟨s0, s1, _⟩ := hSw.v.two; clear hSw); (go_simp <;> with_reducible rfl)); simp only [List.getElem_toArray, List.getElem_cons_zero, List.getElem_cons_succ, Act.put, List.setIfInBounds_toArray, List.set_cons_zero, List.set_cons_succ])
  (refine wpAnyH_take (i := 3) (v := ?_) rfl (by kernel_rfl) (by kernel_rfl) (by kernel_rfl) (fun _ _ _ h => h) (Or.inl ⟨by rfl, ?_⟩) hHeld ?_; rotate_left; (intro w hSw; (obtain ⟨s0, s1, _⟩ := hSw.v.two; clear hSw); (go_simp <;> with_reducible rfl)); simp only [List.getElem_toArray, List.getElem_cons_zero, List.getElem_cons_succ, Act.put, List.setIfInBounds_toArray, List.set_cons_zero, List.set_cons_succ])
  (refine wpAnyH_ready (rs := [4]) (by kernel_rfl) (by simp) ?_; refine AllReadyH.cons rfl (fun K hK => ?_) AllReadyH.nil; go_simp; (refine (HF.out _ _ _ (by omega) (by omega) (by omega)).mono ?_; rintro e W2 ⟨rfl, rfl⟩); refine hK.out _ _ ?_ (fun hHeld => ?_); (first | exact hv | assumption); clear hK K; try dsimp only)
  (refine wpAnyH_take (i := 5) (v := ?_) rfl (by kernel_rfl) (by kernel_rfl) (by kernel_rfl) (fun _ _ _ h => h) (Or.inl ⟨by rfl, ?_⟩) hHeld ?_; rotate_left; (intro w hSw; (obtain ⟨s0, s1, _⟩ := hSw.v.two; clear hSw); (go_simp <;> with_reducible rfl)); simp only [List.getElem_toArray, List.getElem_cons_zero, List.getElem_cons_succ, Act.put, List.setIfInBounds_toArray, List.set_cons_zero, List.set_cons_succ])
  (refine wpAnyH_take (i := 6) (v := ?_) rfl (by kernel_rfl) (by kernel_rfl) (by kernel_rfl) (fun _ _ _ h => h) (Or.inl ⟨by rfl, ?_⟩) hHeld ?_; rotate_left; (intro w hSw; (obtain ⟨s0, s1, _⟩ := hSw.v.two; clear hSw); (go_simp <;> with_reducible rfl)); simp only [List.getElem_toArray, List.getElem_cons_zero, List.getElem_cons_succ, Act.put, List.setIfInBounds_toArray, List.set_cons_zero, List.set_cons_succ])
  refine wpAnyH_done (by kernel_rfl) ?_ _
  refine NoPanic.normal ?_
  obtain ⟨d0, d1, g0, g1⟩ := hK.out.r.two
  clear hHeld hv
  go_wp2
  exact bodyPost_ret (v := .agg #[.int .i64 ((a - b / 2) + b), .int .i64 (a - b / 2)]) (by simp [results, Try.results16, go_sem, d0, d1]) rfl ⟨rfl, (below_cell (below_cell hK.out.b (by omega) _ _) (by omega) _ _).drew⟩
set_option maxHeartbeats 2000000 in
theorem by_mixed (a b : Int) (w : World) :
    Calls Try.prog 14 #[.int .i64 a, .int .i64 b, .func (.func 15) #[] #[]] w fun e w' => e = .returned (.agg #[.int .i64 (mxC a b), .int .i64 (mxA a b), .int .i64 (mxB a b)]) ∧ Below w.heap.size w w' := by
  have HR := hid result_calls
  have HW1 := hid (isWide_calls a b)
  cases hw : (wd a && wd b)
  · have HE : Hid (mxC a b = 3 ∧ mxA a b = 0 ∧ mxB a b = 0) := by
      obtain ⟨g1, g2, _⟩ := mx_no hw
      exact ⟨g1, g2.1, g2.2⟩
    rw [hw] at HW1
    clear hw HR
    go_enter Try.func14, Try.ntmps14
    go_wp2_with fail
    refine (HW1.out _).mono ?_
    rintro e w2 ⟨rfl, hb2⟩
    obtain ⟨hB2, _, hL2, _⟩ := boxes2 hb2
    obtain ⟨c0, c1, c2, f0, f1, f2⟩ := hB2.three
    have HL2 := hid hL2
    clear hb2 HW1 hB2 hL2
    go_wp2
    exact bodyPost_ret (v := .agg #[.int .i64 3, .int .i64 0, .int .i64 0]) (by simp [results, Try.results14, go_sem, c0, c1, c2]) rfl ⟨by rw [HE.out.1, HE.out.2.1, HE.out.2.2], below_cell (below_cell (below_cell HL2.out (Nat.le_refl _) _ _) (Nat.le_refl _) _ _) (Nat.le_refl _) _ _⟩
  · have HE : Hid (mxC a b = 0 ∧ mxA a b = b + (a - b) / 2 ∧ mxB a b = a - b) := by
      obtain ⟨g1, g2, _⟩ := mx_yes hw
      exact ⟨g1, g2.1, g2.2⟩
    rw [hw] at HW1
    have hab : wd a = true ∧ wd b = true := by simpa using hw
    have HA := hid (fun W => mixed_calls a b W (of_inB hab.1) (of_inB hab.2))
    clear hw hab
    generalize b + (a - b) / 2 = xa at *
    generalize a - b = xb at *
    go_enter Try.func14, Try.ntmps14
    go_wp2_with fail
    refine (HW1.out _).mono ?_
    rintro e w2 ⟨rfl, hb2⟩
    obtain ⟨hB2, hV2, hL2, _⟩ := boxes2 hb2
    have HB2 := hid hB2
    have HL2 := hid hL2
    obtain ⟨v0, v1, _, _⟩ := hV2.two
    clear hb2 HW1 hV2 hB2 hL2
    go_wp2_with fail
    refine (HA.out _).mono ?_
    rintro e w3 ⟨rfl, hb3⟩
    have HB3 := hid (HB2.out.later hb3)
    have HL3 := hid (bthen HL2.out hb3)
    clear HB2 HL2 hb3 HA v0 v1
    go_wp2_with fail
    refine (HR.out _ _ _).mono ?_
    rintro e w4 ⟨rfl, hb4⟩
    have HB4 := hid (HB3.out.later hb4)
    have HL4 := hid (bthen HL3.out hb4)
    obtain ⟨c0, c1, c2, f0, f1, f2⟩ := HB4.out.three
    clear HB3 HL3 hb4
    go_wp2
    exact bodyPost_ret (v := .agg #[.int .i64 0, .int .i64 xa, .int .i64 xb]) (by simp [results, Try.results14, go_sem, c0, c1, c2]) rfl ⟨by rw [HE.out.1, HE.out.2.1, HE.out.2.2], below_cell (below_cell (below_cell HL4.out (Nat.le_refl _) _ _) (Nat.le_refl _) _ _) (Nat.le_refl _) _ _⟩
theorem implMixPair_calls (a b : Int) (w : World) :
    Calls Try.prog 8 #[.int .i64 a, .int .i64 b] w fun e w' => e = .returned (.agg #[.int .i64 (mxC a b), .int .i64 (mxA a b), .int .i64 (mxB a b)]) ∧ Below w.heap.size w w' := by
  have HF := hid (by_mixed a b)
  generalize mxC a b = c at *
  generalize mxA a b = xa at *
  generalize mxB a b = xb at *
  go_enter Try.func8, Try.ntmps8
  go_wp2_with fail
  refine (HF.out _).mono ?_
  rintro e w1 ⟨rfl, hb1⟩
  have HB := hid ((Blk.new w #[.int .i64 0, .int .i64 0, .int .i64 0] 27).later hb1)
  have HL := hid (bthen (bmore (Below.refl _ w) _) hb1)
  obtain ⟨c0, c1, c2, f0, f1, f2⟩ := HB.out.three
  clear hb1 HF
  go_wp2
  exact bodyPost_ret (v := .agg #[.int .i64 c, .int .i64 xa, .int .i64 xb]) (by simp [results, Try.results8, go_sem, c0, c1, c2]) rfl ⟨rfl, below_cell (below_cell (below_cell HL.out (Nat.le_refl _) _ _) (Nat.le_refl _) _ _) (Nat.le_refl _) _ _⟩
theorem l5Mix_calls (a b : Int) (w : World) (ha : -137438953472 ≤ a ∧ a ≤ 137438953472) (hb : -137438953472 ≤ b ∧ b ≤ 137438953472) :
    Calls Try.prog 18 #[.int .i64 a, .int .i64 b] w fun e w' => e = .returned (.tuple #[.int .i64 (b + (a - b) / 2), .int .i64 (a - b)]) ∧ w' = w := by
  have HF := hid l1Floor_calls
  have hq : -274877906944 ≤ (a - b) / 2 ∧ (a - b) / 2 ≤ 274877906944 := by omega
  go_enter Try.func18, Try.ntmps18
  go_wp2_with (go_at_call 28; refine (HF.out _ _ _ (by omega) (by omega) (by omega) (by omega)).mono ?_; rintro e w' ⟨rfl, rfl⟩)
  exact bodyPost_ret (v := .tuple #[.int .i64 (b + (a - b) / 2), .int .i64 (a - b)]) (by simp [results, Try.results18, go_sem]) rfl ⟨rfl, rfl⟩
theorem specMixPair_calls (a b : Int) (w : World) :
    Calls Try.prog 10 #[.int .i64 a, .int .i64 b] w fun e w' => e = .returned (.agg #[.int .i64 (mxC a b), .int .i64 (mxA a b), .int .i64 (mxB a b)]) ∧ Below w.heap.size w w' := by
  have HW1 := hid (l5Wide_calls a b)
  cases hw : (wd a && wd b)
  · have HE : Hid (mxC a b = 3 ∧ mxA a b = 0 ∧ mxB a b = 0) := by
      obtain ⟨g1, g2, _⟩ := mx_no hw
      exact ⟨g1, g2.1, g2.2⟩
    rw [hw] at HW1
    clear hw
    go_enter Try.func10, Try.ntmps10
    go_wp2_with (go_at_call 17; refine (HW1.out _).mono ?_; rintro e w' ⟨rfl, rfl⟩)
    exact bodyPost_ret (v := .agg #[.int .i64 3, .int .i64 0, .int .i64 0]) (by simp [results, Try.results10, go_sem]) rfl ⟨by rw [HE.out.1, HE.out.2.1, HE.out.2.2], bmore (Below.refl _ _) _⟩
  · have HE : Hid (mxC a b = 0 ∧ mxA a b = b + (a - b) / 2 ∧ mxB a b = a - b) := by
      obtain ⟨g1, g2, _⟩ := mx_yes hw
      exact ⟨g1, g2.1, g2.2⟩
    rw [hw] at HW1
    have hab : wd a = true ∧ wd b = true := by simpa using hw
    have HA := hid (fun W => l5Mix_calls a b W (of_inB hab.1) (of_inB hab.2))
    clear hw hab
    generalize b + (a - b) / 2 = xa at *
    generalize a - b = xb at *
    go_enter Try.func10, Try.ntmps10
    go_wp2_with (first | (go_at_call 17; refine (HW1.out _).mono ?_; rintro e w' ⟨rfl, rfl⟩) | (go_at_call 18; refine (HA.out _).mono ?_; rintro e w' ⟨rfl, rfl⟩))
    exact bodyPost_ret (v := .agg #[.int .i64 0, .int .i64 xa, .int .i64 xb]) (by simp [results, Try.results10, go_sem]) rfl ⟨by rw [HE.out.1, HE.out.2.1, HE.out.2.2], bmore (Below.refl _ _) _⟩
set_option maxHeartbeats 2000000 in
theorem by_parted (a b : Int) (w : World) :
    Calls Try.prog 14 #[.int .i64 a, .int .i64 b, .func (.func 16) #[] #[]] w fun e w' => e = .returned (.agg #[.int .i64 (mxC a b), .int .i64 (ptA a b), .int .i64 (ptB a b)]) ∧ Below w.heap.size w w' := by
  have HR := hid result_calls
  have HW1 := hid (isWide_calls a b)
  cases hw : (wd a && wd b)
  · have HE : Hid (mxC a b = 3 ∧ ptA a b = 0 ∧ ptB a b = 0) := by
      obtain ⟨g1, _, g3⟩ := mx_no hw
      exact ⟨g1, g3.1, g3.2⟩
    rw [hw] at HW1
    clear hw HR
    go_enter Try.func14, Try.ntmps14
    go_wp2_with fail
    refine (HW1.out _).mono ?_
    rintro e w2 ⟨rfl, hb2⟩
    obtain ⟨hB2, _, hL2, _⟩ := boxes2 hb2
    obtain ⟨c0, c1, c2, f0, f1, f2⟩ := hB2.three
    have HL2 := hid hL2
    clear hb2 HW1 hB2 hL2
    go_wp2
    exact bodyPost_ret (v := .agg #[.int .i64 3, .int .i64 0, .int .i64 0]) (by simp [results, Try.results14, go_sem, c0, c1, c2]) rfl ⟨by rw [HE.out.1, HE.out.2.1, HE.out.2.2], below_cell (below_cell (below_cell HL2.out (Nat.le_refl _) _ _) (Nat.le_refl _) _ _) (Nat.le_refl _) _ _⟩
  · have HE : Hid (mxC a b = 0 ∧ ptA a b = a - b / 2 + b ∧ ptB a b = a - b / 2) := by
      obtain ⟨g1, _, g3⟩ := mx_yes hw
      exact ⟨g1, g3.1, g3.2⟩
    rw [hw] at HW1
    have hab : wd a = true ∧ wd b = true := by simpa using hw
    have HA := hid (fun W => parted_calls a b W (of_inB hab.1) (of_inB hab.2))
    clear hw hab
    generalize a - b / 2 + b = xa at *
    generalize a - b / 2 = xb at *
    go_enter Try.func14, Try.ntmps14
    go_wp2_with fail
    refine (HW1.out _).mono ?_
    rintro e w2 ⟨rfl, hb2⟩
    obtain ⟨hB2, hV2, hL2, _⟩ := boxes2 hb2
    have HB2 := hid hB2
    have HL2 := hid hL2
    obtain ⟨v0, v1, _, _⟩ := hV2.two
    clear hb2 HW1 hV2 hB2 hL2
    go_wp2_with fail
    refine (HA.out _).mono ?_
    rintro e w3 ⟨rfl, hb3⟩
    have HB3 := hid (HB2.out.later hb3)
    have HL3 := hid (bthen HL2.out hb3)
    clear HB2 HL2 hb3 HA v0 v1
    go_wp2_with fail
    refine (HR.out _ _ _).mono ?_
    rintro e w4 ⟨rfl, hb4⟩
    have HB4 := hid (HB3.out.later hb4)
    have HL4 := hid (bthen HL3.out hb4)
    obtain ⟨c0, c1, c2, f0, f1, f2⟩ := HB4.out.three
    clear HB3 HL3 hb4
    go_wp2
    exact bodyPost_ret (v := .agg #[.int .i64 0, .int .i64 xa, .int .i64 xb]) (by simp [results, Try.results14, go_sem, c0, c1, c2]) rfl ⟨by rw [HE.out.1, HE.out.2.1, HE.out.2.2], below_cell (below_cell (below_cell HL4.out (Nat.le_refl _) _ _) (Nat.le_refl _) _ _) (Nat.le_refl _) _ _⟩
theorem implPartPair_calls (a b : Int) (w : World) :
    Calls Try.prog 9 #[.int .i64 a, .int .i64 b] w fun e w' => e = .returned (.agg #[.int .i64 (mxC a b), .int .i64 (ptA a b), .int .i64 (ptB a b)]) ∧ Below w.heap.size w w' := by
  have HF := hid (by_parted a b)
  generalize mxC a b = c at *
  generalize ptA a b = xa at *
  generalize ptB a b = xb at *
  go_enter Try.func9, Try.ntmps9
  go_wp2_with fail
  refine (HF.out _).mono ?_
  rintro e w1 ⟨rfl, hb1⟩
  have HB := hid ((Blk.new w #[.int .i64 0, .int .i64 0, .int .i64 0] 27).later hb1)
  have HL := hid (bthen (bmore (Below.refl _ w) _) hb1)
  obtain ⟨c0, c1, c2, f0, f1, f2⟩ := HB.out.three
  clear hb1 HF
  go_wp2
  exact bodyPost_ret (v := .agg #[.int .i64 c, .int .i64 xa, .int .i64 xb]) (by simp [results, Try.results9, go_sem, c0, c1, c2]) rfl ⟨rfl, below_cell (below_cell (below_cell HL.out (Nat.le_refl _) _ _) (Nat.le_refl _) _ _) (Nat.le_refl _) _ _⟩
theorem l5Part_calls (a b : Int) (w : World) (ha : -137438953472 ≤ a ∧ a ≤ 137438953472) (hb : -137438953472 ≤ b ∧ b ≤ 137438953472) :
    Calls Try.prog 19 #[.int .i64 a, .int .i64 b] w fun e w' => e = .returned (.tuple #[.int .i64 (a - b / 2 + b), .int .i64 (a - b / 2)]) ∧ w' = w := by
  have HF := hid l1Floor_calls
  have hq : -274877906944 ≤ b / 2 ∧ b / 2 ≤ 274877906944 := by omega
  go_enter Try.func19, Try.ntmps19
  go_wp2_with (go_at_call 28; refine (HF.out _ _ _ (by omega) (by omega) (by omega) (by omega)).mono ?_; rintro e w' ⟨rfl, rfl⟩)
  exact bodyPost_ret (v := .tuple #[.int .i64 (a - b / 2 + b), .int .i64 (a - b / 2)]) (by simp [results, Try.results19, go_sem]) rfl ⟨rfl, rfl⟩
theorem specPartPair_calls (a b : Int) (w : World) :
    Calls Try.prog 11 #[.int .i64 a, .int .i64 b] w fun e w' => e = .returned (.agg #[.int .i64 (mxC a b), .int .i64 (ptA a b), .int .i64 (ptB a b)]) ∧ Below w.heap.size w w' := by
  have HW1 := hid (l5Wide_calls a b)
  cases hw : (wd a && wd b)
  · have HE : Hid (mxC a b = 3 ∧ ptA a b = 0 ∧ ptB a b = 0) := by
      obtain ⟨g1, _, g3⟩ := mx_no hw
      exact ⟨g1, g3.1, g3.2⟩
    rw [hw] at HW1
    clear hw
    go_enter Try.func11, Try.ntmps11
    go_wp2_with (go_at_call 17; refine (HW1.out _).mono ?_; rintro e w' ⟨rfl, rfl⟩)
    exact bodyPost_ret (v := .agg #[.int .i64 3, .int .i64 0, .int .i64 0]) (by simp [results, Try.results11, go_sem]) rfl ⟨by rw [HE.out.1, HE.out.2.1, HE.out.2.2], bmore (Below.refl _ _) _⟩
  · have HE : Hid (mxC a b = 0 ∧ ptA a b = a - b / 2 + b ∧ ptB a b = a - b / 2) := by
      obtain ⟨g1, _, g3⟩ := mx_yes hw
      exact ⟨g1, g3.1, g3.2⟩
    rw [hw] at HW1
    have hab : wd a = true ∧ wd b = true := by simpa using hw
    have HA := hid (fun W => l5Part_calls a b W (of_inB hab.1) (of_inB hab.2))
    clear hw hab
    generalize a - b / 2 + b = xa at *
    generalize a - b / 2 = xb at *
    go_enter Try.func11, Try.ntmps11
    go_wp2_with (first | (go_at_call 17; refine (HW1.out _).mono ?_; rintro e w' ⟨rfl, rfl⟩) | (go_at_call 19; refine (HA.out _).mono ?_; rintro e w' ⟨rfl, rfl⟩))
    exact bodyPost_ret (v := .agg #[.int .i64 0, .int .i64 xa, .int .i64 xb]) (by simp [results, Try.results11, go_sem]) rfl ⟨by rw [HE.out.1, HE.out.2.1, HE.out.2.2], bmore (Below.refl _ _) _⟩
end Go.Proofs.Ytfgjkaahjclkoaa.MixP
