/- A pair that is mixed, parted, or parted with bounds, by the program. Condition: numbers within MaxWide. -/
import Derived.Test.YtbakmphopgkpmaaDoorGb
import Derived.Deep.RegionHeld3
import Derived.Deep.CutBlock
import Derived.Deep.DeepCutAuto
namespace Go.Proofs.YtbakmphopgkpmaaDoor.MixI
open Go.ChangeShapes Go.WideShapes Go.ChangeAt Go.RowKit Go.Proofs.YtbakmphopgkpmaaDoor.Num Go.Proofs.YtbakmphopgkpmaaDoor.Sli Go.Proofs.YtbakmphopgkpmaaDoor.Div Go.Proofs.YtbakmphopgkpmaaDoor.Samp Go.Proofs.YtbakmphopgkpmaaDoor.Blk Go.Proofs.YtbakmphopgkpmaaDoor.TurM Go.Proofs.YtbakmphopgkpmaaDoor.Par Go.Proofs.YtbakmphopgkpmaaDoor.BndM

/-- What mixed and parted keep: the pair's block, the answer's block. -/
structure KM (w : World) (a b : Int) (W : World) : Prop where
  v : Blk W w.heap.size #[.int .i64 a, .int .i64 b] 69
  r : Blk W (w.heap.size + 1) #[.int .i64 0, .int .i64 0] 69
  b : Below w.heap.size w W
theorem KM.drew {w W : World} {a b : Int} (h : KM w a b W) : KM w a b W.drew := ⟨h.v, h.r, h.b.drew⟩
theorem KM.new (w : World) (a b : Int) : KM w a b ((w.alloc (.cells #[.int .i64 a, .int .i64 b] 69)).alloc (.cells #[.int .i64 0, .int .i64 0] 69)) := by
  obtain ⟨h1, h2, h3, _⟩ := boxes2 (w := w) (A := #[.int .i64 a, .int .i64 b]) (B := #[.int .i64 0, .int .i64 0]) (t := 69) (u := 69) (Below.refl _ _)
  exact ⟨h1, h2, h3⟩

set_option maxHeartbeats 1000000 in
theorem parted_calls (a b : Int) (w : World) (ha : -137438953472 ≤ a ∧ a ≤ 137438953472) (hb : -137438953472 ≤ b ∧ b ≤ 137438953472) :
    Calls Tryd.prog 59 #[.agg #[.int .i64 a, .int .i64 b]] w fun e w' => e = .returned (.agg #[.int .i64 ((a - b / 2) + b), .int .i64 (a - b / 2)]) ∧ Below w.heap.size w w' := by
  have HF := hid floor_calls
  have hK := hid (KM.new w a b)
  have hq : -274877906944 ≤ b / 2 ∧ b / 2 ≤ 274877906944 := by omega
  have e2 : IntKind.i64.wrap (a - b / 2) = a - b / 2 := wrapk_of (by omega) (by omega)
  go_enter Tryd.func59, Tryd.ntmps59
  go_upto_region 1 with fail
  generalize ((w.alloc (.cells #[.int .i64 a, .int .i64 b] 69)).alloc (.cells #[.int .i64 0, .int .i64 0] 69)) = wr at *
  obtain ⟨c0, c1, f0, f1⟩ := hK.out.v.two
  have hv := hK.out.drew
  refine wp_region_noPanic ?_
  refine wp_region_held_drew (S := fun W => KM w a b W) (by kernel_rfl) ?_ (fun hHeld => ?_)
  · first | exact hv | assumption
  (refine wpAnyH_take (i := 0) (v := ?_) rfl (by kernel_rfl) (by kernel_rfl) (by kernel_rfl) (fun _ _ _ h => h) (Or.inl ⟨by rfl, ?_⟩) hHeld ?_; rotate_left; (intro w hSw; (obtain ⟨s0, s1, _⟩ := hSw.v.two; clear hSw); (go_simp <;> with_reducible rfl)); simp only [List.getElem_toArray, List.getElem_cons_zero, Act.put, List.setIfInBounds_toArray, List.set_cons_zero, List.set_cons_succ])
  (refine wpAnyH_take (i := 1) (v := ?_) rfl (by kernel_rfl) (by kernel_rfl) (by kernel_rfl) (fun _ _ _ h => h) (Or.inl ⟨by rfl, ?_⟩) hHeld ?_; rotate_left; (intro w hSw; (obtain ⟨s0, s1, _⟩ := hSw.v.two; clear hSw); (go_simp <;> with_reducible rfl)); simp only [List.getElem_toArray, List.getElem_cons_zero, List.getElem_cons_succ, Act.put, List.setIfInBounds_toArray, List.set_cons_zero, List.set_cons_succ])
  (refine wpAnyH_take (i := 2) (v := ?_) rfl (by kernel_rfl) (by kernel_rfl) (by kernel_rfl) (fun _ _ _ h => h) (Or.inl ⟨by rfl, ?_⟩) hHeld ?_; rotate_left; (intro w hSw; (obtain ⟨s0, s1, _⟩ := hSw.v.two; clear hSw); (go_simp <;> with_reducible rfl)); simp only [List.getElem_toArray, List.getElem_cons_zero, List.getElem_cons_succ, Act.put, List.setIfInBounds_toArray, List.set_cons_zero, List.set_cons_succ])
  (refine wpAnyH_take (i := 3) (v := ?_) rfl (by kernel_rfl) (by kernel_rfl) (by kernel_rfl) (fun _ _ _ h => h) (Or.inl ⟨by rfl, ?_⟩) hHeld ?_; rotate_left; (intro w hSw; (obtain ⟨s0, s1, _⟩ := hSw.v.two; clear hSw); (go_simp <;> with_reducible rfl)); simp only [List.getElem_toArray, List.getElem_cons_zero, List.getElem_cons_succ, Act.put, List.setIfInBounds_toArray, List.set_cons_zero, List.set_cons_succ])
  (refine wpAnyH_ready (rs := [4]) (by kernel_rfl) (by simp) ?_; refine AllReadyH.cons rfl (fun K hK => ?_) AllReadyH.nil; go_simp; (refine (HF.out _ _ _ (by omega) (by omega) (by omega)).mono ?_; rintro e W2 ⟨rfl, rfl⟩); refine hK.out _ _ ?_ (fun hHeld => ?_); (first | exact hv | assumption); clear hK K; try dsimp only)
  (refine wpAnyH_take (i := 5) (v := ?_) rfl (by kernel_rfl) (by kernel_rfl) (by kernel_rfl) (fun _ _ _ h => h) (Or.inl ⟨by rfl, ?_⟩) hHeld ?_; rotate_left; (intro w hSw; (obtain ⟨s0, s1, _⟩ := hSw.v.two; clear hSw); (go_simp <;> with_reducible rfl)); simp only [List.getElem_toArray, List.getElem_cons_zero, List.getElem_cons_succ, Act.put, List.setIfInBounds_toArray, List.set_cons_zero, List.set_cons_succ])
  (refine wpAnyH_take (i := 6) (v := ?_) rfl (by kernel_rfl) (by kernel_rfl) (by kernel_rfl) (fun _ _ _ h => h) (Or.inl ⟨by rfl, ?_⟩) hHeld ?_; rotate_left; (intro w hSw; (obtain ⟨s0, s1, _⟩ := hSw.v.two; clear hSw); (go_simp <;> with_reducible rfl)); simp only [List.getElem_toArray, List.getElem_cons_zero, List.getElem_cons_succ, Act.put, List.setIfInBounds_toArray, List.set_cons_zero, List.set_cons_succ])
  refine wpAnyH_done (by kernel_rfl) ?_ _
  refine NoPanic.normal ?_
  obtain ⟨d0, d1, g0, g1⟩ := hK.out.r.two
  clear hHeld hv
  go_wp2
  exact bodyPost_ret (v := .agg #[.int .i64 ((a - b / 2) + b), .int .i64 (a - b / 2)]) (by simp [results, Tryd.results59, go_sem, d0, d1]) rfl ⟨rfl, (below_cell (below_cell hK.out.b (by omega) _ _) (by omega) _ _).drew⟩
set_option maxHeartbeats 1000000 in
theorem partedBounds_calls (a b : Int) (w : World) (ha : 0 ≤ a ∧ a ≤ 137438953472) (hb : 0 ≤ b ∧ b ≤ 137438953472) :
    Calls Tryd.prog 52 #[.agg #[.int .i64 a, .int .i64 b]] w fun e w' => e = .returned (.agg #[.int .i64 (a + ceilV b 2), .int .i64 (a + ceilV b 2)]) ∧ Below w.heap.size w w' := by
  have HF := hid ceil_calls
  have hK := hid (KM.new w a b)
  have hq := ceilV_bd b 2 hb.1 (by omega)
  have e2 : IntKind.i64.wrap (a + ceilV b 2) = a + ceilV b 2 := wrapk_of (by omega) (by omega)
  clear hq
  go_enter Tryd.func52, Tryd.ntmps52
  go_upto_region 1 with fail
  generalize ((w.alloc (.cells #[.int .i64 a, .int .i64 b] 69)).alloc (.cells #[.int .i64 0, .int .i64 0] 69)) = wr at *
  obtain ⟨c0, c1, f0, f1⟩ := hK.out.v.two
  have hv := hK.out.drew
  refine wp_region_noPanic ?_
  refine wp_region_held_drew (S := fun W => KM w a b W) (by kernel_rfl) ?_ (fun hHeld => ?_)
  · first | exact hv | assumption
  (refine wpAnyH_take (i := 0) (v := ?_) rfl (by kernel_rfl) (by kernel_rfl) (by kernel_rfl) (fun _ _ _ h => h) (Or.inl ⟨by rfl, ?_⟩) hHeld ?_; rotate_left; (intro w hSw; (obtain ⟨s0, s1, _⟩ := hSw.v.two; clear hSw); (go_simp <;> with_reducible rfl)); simp only [List.getElem_toArray, List.getElem_cons_zero, Act.put, List.setIfInBounds_toArray, List.set_cons_zero, List.set_cons_succ])
  (refine wpAnyH_take (i := 1) (v := ?_) rfl (by kernel_rfl) (by kernel_rfl) (by kernel_rfl) (fun _ _ _ h => h) (Or.inl ⟨by rfl, ?_⟩) hHeld ?_; rotate_left; (intro w hSw; (obtain ⟨s0, s1, _⟩ := hSw.v.two; clear hSw); (go_simp <;> with_reducible rfl)); simp only [List.getElem_toArray, List.getElem_cons_zero, List.getElem_cons_succ, Act.put, List.setIfInBounds_toArray, List.set_cons_zero, List.set_cons_succ])
  (refine wpAnyH_take (i := 2) (v := ?_) rfl (by kernel_rfl) (by kernel_rfl) (by kernel_rfl) (fun _ _ _ h => h) (Or.inl ⟨by rfl, ?_⟩) hHeld ?_; rotate_left; (intro w hSw; (obtain ⟨s0, s1, _⟩ := hSw.v.two; clear hSw); (go_simp <;> with_reducible rfl)); simp only [List.getElem_toArray, List.getElem_cons_zero, List.getElem_cons_succ, Act.put, List.setIfInBounds_toArray, List.set_cons_zero, List.set_cons_succ])
  (refine wpAnyH_take (i := 3) (v := ?_) rfl (by kernel_rfl) (by kernel_rfl) (by kernel_rfl) (fun _ _ _ h => h) (Or.inl ⟨by rfl, ?_⟩) hHeld ?_; rotate_left; (intro w hSw; (obtain ⟨s0, s1, _⟩ := hSw.v.two; clear hSw); (go_simp <;> with_reducible rfl)); simp only [List.getElem_toArray, List.getElem_cons_zero, List.getElem_cons_succ, Act.put, List.setIfInBounds_toArray, List.set_cons_zero, List.set_cons_succ])
  (refine wpAnyH_ready (rs := [4]) (by kernel_rfl) (by simp) ?_; refine AllReadyH.cons rfl (fun K hK => ?_) AllReadyH.nil; go_simp; (refine (HF.out _ _ _ (by omega) (by omega) (by omega) (by omega)).mono ?_; rintro e W2 ⟨rfl, rfl⟩); refine hK.out _ _ ?_ (fun hHeld => ?_); (first | exact hv | assumption); clear hK K; try dsimp only)
  (refine wpAnyH_take (i := 5) (v := ?_) rfl (by kernel_rfl) (by kernel_rfl) (by kernel_rfl) (fun _ _ _ h => h) (Or.inl ⟨by rfl, ?_⟩) hHeld ?_; rotate_left; (intro w hSw; (obtain ⟨s0, s1, _⟩ := hSw.v.two; clear hSw); (go_simp <;> with_reducible rfl)); simp only [List.getElem_toArray, List.getElem_cons_zero, List.getElem_cons_succ, Act.put, List.setIfInBounds_toArray, List.set_cons_zero, List.set_cons_succ])
  (refine wpAnyH_take (i := 6) (v := ?_) rfl (by kernel_rfl) (by kernel_rfl) (by kernel_rfl) (fun _ _ _ h => h) (Or.inl ⟨by rfl, ?_⟩) hHeld ?_; rotate_left; (intro w hSw; (obtain ⟨s0, s1, _⟩ := hSw.v.two; clear hSw); (go_simp <;> with_reducible rfl)); simp only [List.getElem_toArray, List.getElem_cons_zero, List.getElem_cons_succ, Act.put, List.setIfInBounds_toArray, List.set_cons_zero, List.set_cons_succ])
  refine wpAnyH_done (by kernel_rfl) ?_ _
  refine NoPanic.normal ?_
  obtain ⟨d0, d1, g0, g1⟩ := hK.out.r.two
  clear hHeld hv
  go_wp2
  exact bodyPost_ret (v := .agg #[.int .i64 (a + ceilV b 2), .int .i64 (a + ceilV b 2)]) (by simp [results, Tryd.results52, go_sem, d0, d1]) rfl ⟨rfl, (below_cell (below_cell hK.out.b (by omega) _ _) (by omega) _ _).drew⟩
end Go.Proofs.YtbakmphopgkpmaaDoor.MixI
