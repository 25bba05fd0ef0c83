/- New laps and synths of the program. No condition. -/
import Derived.Test.YtbakmphopgkpmaaDoorLaI
import Derived.Deep.RegionHeld3
import Derived.Deep.CutBlock
import Derived.Deep.DeepCutAuto
namespace Go.Proofs.YtbakmphopgkpmaaDoor.LaN
open Go.ChangeShapes Go.WideShapes Go.ChangeAt Go.RowKit Go.Proofs.YtbakmphopgkpmaaDoor.Num Go.Proofs.YtbakmphopgkpmaaDoor.Sli Go.Proofs.YtbakmphopgkpmaaDoor.App Go.Proofs.YtbakmphopgkpmaaDoor.Samp Go.Proofs.YtbakmphopgkpmaaDoor.SampF Go.Proofs.YtbakmphopgkpmaaDoor.Blk Go.Proofs.YtbakmphopgkpmaaDoor.TurM Go.Proofs.YtbakmphopgkpmaaDoor.HalM Go.Proofs.YtbakmphopgkpmaaDoor.LapM Go.Proofs.YtbakmphopgkpmaaDoor.LapN Go.Proofs.YtbakmphopgkpmaaDoor.IntL Go.Proofs.YtbakmphopgkpmaaDoor.IntA Go.Proofs.YtbakmphopgkpmaaDoor.LapS Go.Proofs.YtbakmphopgkpmaaDoor.BkI Go.Proofs.YtbakmphopgkpmaaDoor.LaI

/-- What is kept: two boxes of the call's own. -/
structure BX (w : World) (A : Array Value) (t : TypeId) (B : Array Value) (u : TypeId) (W : World) : Prop where
  l : Blk W w.heap.size A t
  r : Blk W (w.heap.size + 1) B u
  b : Below w.heap.size w W
section
variable {w W W' : World} {A : Array Value} {t : TypeId} {B : Array Value} {u : TypeId}
theorem BX.new (w : World) (A : Array Value) (t : TypeId) (B : Array Value) (u : TypeId) : BX w A t B u ((w.alloc (.cells A t)).alloc (.cells B u)) := by
  refine ⟨(Blk.new w A t).alloc _, ?_, bmore (bmore (Below.refl _ _) _) _⟩
  have := Blk.new (w.alloc (.cells A t)) B u
  rwa [World.size_alloc] at this
theorem BX.later (h : BX w A t B u W) (hb : Below W.heap.size W W') : BX w A t B u W' := ⟨h.l.later hb, h.r.later hb, bthen h.b hb⟩
theorem BX.drew (h : BX w A t B u W) : BX w A t B u W.drew := ⟨h.l, h.r, h.b.drew⟩
/-- The second box is written. -/
theorem BX.setR (h : BX w A t B u W) (i : Nat) (v : Value) : BX w A t (B.setIfInBounds i v) u (W.setCell ⟨w.heap.size + 1, i, none⟩ v) :=
  ⟨h.l.other (by omega) i v, h.r.set i v, below_cell h.b (by omega) i v⟩
/-- The first box is written. -/
theorem BX.setL (h : BX w A t B u W) (i : Nat) (v : Value) : BX w (A.setIfInBounds i v) t B u (W.setCell ⟨w.heap.size, i, none⟩ v) :=
  ⟨h.l.set i v, h.r.other (by omega) i v, below_cell h.b (by omega) i v⟩
end
set_option maxRecDepth 100000 in
set_option maxHeartbeats 2000000 in
theorem implNewSynth_calls (s : Int) (w : World) :
    Calls Tryd.prog 31 #[.int .i64 s] w fun e w' => ∃ u t, e = .returned (.agg #[.int .i64 (szF s), .int .i64 (nlS s), u, t]) ∧ TW w.heap.size u t (nlL s) (nlL s) w' ∧ Below w.heap.size w w' := by
  have HS := hid (implSizeFault_calls s)
  rcases sz_03 s with hz | hz
  · have HE : Hid (nlS s = s ∧ nlL s = List.replicate (hN s) 0) := ⟨if_pos hz, if_pos hz⟩
    have HN := hid (fun W => noughts_calls s W hz)
    have hm8 : hN s ≤ 8 := by obtain ⟨_, _, _, _, h, _⟩ := sz_nat hz; exact h
    rw [hz] at HS ⊢
    rw [HE.out.1, HE.out.2]
    clear hz HE
    generalize List.replicate (hN s) (0 : Int) = Z at *
    generalize hN s = m at *
    have HK0 := hid (BX.new w #[.int .i64 0, .int .i64 0, .slice none 0 0, .slice none 0 0] 45 #[.int .i64 s, .slice none 0 0, .slice none 0 0] 102)
    have hsz0 : ((w.alloc (.cells #[.int .i64 0, .int .i64 0, .slice none 0 0, .slice none 0 0] 45)).alloc (.cells #[.int .i64 s, .slice none 0 0, .slice none 0 0] 102)).heap.size = w.heap.size + 1 + 1 := by rw [World.size_alloc, World.size_alloc]
    go_enter Tryd.func31, Tryd.ntmps31
    go_wp2_with fail
    refine (HS.out _).mono ?_
    rintro e w' ⟨rfl, rfl⟩
    go_wp2_with fail
    generalize (w.alloc (.cells #[.int .i64 0, .int .i64 0, .slice none 0 0, .slice none 0 0] 45)).alloc (.cells #[.int .i64 s, .slice none 0 0, .slice none 0 0] 102) = wr at *
    have hS0 : wr.drew.cell? ⟨w.heap.size + 1, 0, none⟩ = some (.int .i64 s) := HK0.out.r.three.1
    have HK1 := hid HK0.out.drew
    have hd : wr.drew.heap.size = w.heap.size + 1 + 1 := hsz0
    clear HK0 HS hsz0
    refine wp_region_noPanic ?_
    refine wp_region_held_drew (S := fun W => W.cell? ⟨w.heap.size + 1, 0, none⟩ = some (.int .i64 s)) (by kernel_rfl) (by first | exact hS4 | exact hS3 | exact hS2 | exact hS1 | exact hS0) (fun hHeld => ?_)
    (refine wpAnyH_take (i := 0) (v := ?_) rfl (by kernel_rfl) (by kernel_rfl) (by kernel_rfl) (fun _ _ _ h => h) (Or.inl ⟨by rfl, ?_⟩) hHeld ?_; rotate_left; (intro w hSw; (have s0 := hSw); (go_simp <;> with_reducible rfl)); simp only [List.getElem_toArray, List.getElem_cons_zero, Act.put, List.setIfInBounds_toArray, List.set_cons_zero, List.set_cons_succ])
    (refine wpAnyH_take (i := 1) (v := ?_) rfl (by kernel_rfl) (by kernel_rfl) (by kernel_rfl) (fun _ _ _ h => h) (Or.inl ⟨by rfl, ?_⟩) hHeld ?_; rotate_left; (intro w hSw; (have s0 := hSw); (go_simp <;> with_reducible rfl)); simp only [List.getElem_toArray, List.getElem_cons_zero, List.getElem_cons_succ, Act.put, List.setIfInBounds_toArray, List.set_cons_zero, List.set_cons_succ])
    (refine wpAnyH_take (i := 3) (v := ?_) rfl (by kernel_rfl) (by kernel_rfl) (by kernel_rfl) (fun _ _ _ h => h) (Or.inl ⟨by rfl, ?_⟩) hHeld ?_; rotate_left; (intro w hSw; (have s0 := hSw); (go_simp <;> with_reducible rfl)); simp only [List.getElem_toArray, List.getElem_cons_zero, List.getElem_cons_succ, Act.put, List.setIfInBounds_toArray, List.set_cons_zero, List.set_cons_succ])
    (refine wpAnyH_take (i := 4) (v := ?_) rfl (by kernel_rfl) (by kernel_rfl) (by kernel_rfl) (fun _ _ _ h => h) (Or.inl ⟨by rfl, ?_⟩) hHeld ?_; rotate_left; (intro w hSw; (have s0 := hSw); (go_simp <;> with_reducible rfl)); simp only [List.getElem_toArray, List.getElem_cons_zero, List.getElem_cons_succ, Act.put, List.setIfInBounds_toArray, List.set_cons_zero, List.set_cons_succ])
    refine wpAnyH_ready (rs := [2]) (by kernel_rfl) (by simp) ?_
    refine (AllReadyH.cons rfl (fun K hK => ?_) AllReadyH.nil)
    go_simp
    (refine (HN.out _).mono ?_; rintro e w1 ⟨rfl, ho1, hb1⟩; rw [hd] at ho1; have HK2 := HK1.out.later hb1; have hS1 := HK2.r.three.1)
    refine hK.out _ _ (by first | exact hS4 | exact hS3 | exact hS2 | exact hS1 | exact hS0) (fun hHeld => ?_)
    clear hK K
    try dsimp only
    (refine wpAnyH_take (i := 6) (v := ?_) rfl (by kernel_rfl) (by kernel_rfl) (by kernel_rfl) (fun _ _ _ h => h) (Or.inl ⟨by rfl, ?_⟩) hHeld ?_; rotate_left; (intro w hSw; (have s0 := hSw); (go_simp <;> with_reducible rfl)); simp only [List.getElem_toArray, List.getElem_cons_zero, List.getElem_cons_succ, Act.put, List.setIfInBounds_toArray, List.set_cons_zero, List.set_cons_succ])
    refine wpAnyH_ready (rs := [5]) (by kernel_rfl) (by simp) ?_
    refine (AllReadyH.cons rfl (fun K hK => ?_) AllReadyH.nil)
    go_simp
    (refine (HN.out _).mono ?_; rintro e w2 ⟨rfl, ho2, hb2⟩; have HK3 := HK2.later hb2; have hS2 := HK3.r.three.1; have ho12 := ho1.later hb2; obtain ⟨c0, c1, c2, f0, f1, f2⟩ := HK3.r.three)
    refine hK.out _ _ (by first | exact hS4 | exact hS3 | exact hS2 | exact hS1 | exact hS0) (fun hHeld => ?_)
    clear hK K
    try dsimp only
    refine wpAnyH_ready (rs := [7]) (by kernel_rfl) (by simp) ?_
    refine (AllReadyH.cons rfl (fun K hK => ?_) AllReadyH.nil)
    go_simp
    (have HK4 := HK3.setR 1 (.slice (some ⟨w.heap.size + 1 + 1, 0, none⟩) m m); have hS3 := HK4.r.three.1)
    refine hK.out _ _ (by first | exact hS4 | exact hS3 | exact hS2 | exact hS1 | exact hS0) (fun hHeld => ?_)
    clear hK K
    try simp only [List.getElem_toArray, List.getElem_cons_zero, List.getElem_cons_succ, Act.put, List.setIfInBounds_toArray, List.set_cons_zero, List.set_cons_succ]
    (refine wpAnyH_take (i := 8) (v := ?_) rfl (by kernel_rfl) (by kernel_rfl) (by kernel_rfl) (fun _ _ _ h => h) (Or.inl ⟨by rfl, ?_⟩) hHeld ?_; rotate_left; (intro w hSw; (have s0 := hSw); (go_simp <;> with_reducible rfl)); simp only [List.getElem_toArray, List.getElem_cons_zero, List.getElem_cons_succ, Act.put, List.setIfInBounds_toArray, List.set_cons_zero, List.set_cons_succ])
    refine wpAnyH_ready (rs := [9]) (by kernel_rfl) (by simp) ?_
    refine (AllReadyH.cons rfl (fun K hK => ?_) AllReadyH.nil)
    go_simp
    (have HK5 := HK4.setR 2 (.slice (some ⟨w1.heap.size, 0, none⟩) m m); have hS4 := HK5.r.three.1)
    refine hK.out _ _ (by first | exact hS4 | exact hS3 | exact hS2 | exact hS1 | exact hS0) (fun hHeld => ?_)
    clear hK K
    try simp only [List.getElem_toArray, List.getElem_cons_zero, List.getElem_cons_succ, Act.put, List.setIfInBounds_toArray, List.set_cons_zero, List.set_cons_succ]
    refine wpAnyH_done (by kernel_rfl) ?_ _
    refine NoPanic.normal ?_
    have hw1 := (ho1.block (w.heap.size + 1 + 1) rfl).2
    have HT2 : Hid (TW (w.heap.size + 1 + 1) (.slice (some ⟨w.heap.size + 1 + 1, 0, none⟩) m m) (.slice (some ⟨w1.heap.size, 0, none⟩) m m) Z Z w2) := ⟨ho12.mono (by omega), ho2.mono (by omega), fun g e1 e2 => by simp [Value.ownBlock] at e1 e2; omega⟩
    have HT3 := hid (HT2.out.over (R := w.heap.size + 1) (by omega) (grown_same (grown_set w2 (w.heap.size + 1) 1 (.slice (some ⟨w.heap.size + 1 + 1, 0, none⟩) m m)) (grown_set _ (w.heap.size + 1) 2 (.slice (some ⟨w1.heap.size, 0, none⟩) m m))))
    have HK5h := hid HK5
    clear HT2 HK5 HK4 HK3 HK2 HK1 ho1 ho2 ho12 hb1 hb2 hS0 hS1 hS2 hS3 hHeld HN f0 f1 f2
    go_wp2_with fail
    refine (synthTold_calls _ _ _ _ _ _ _ _).mono ?_
    rintro e w5 ⟨rfl, hb5⟩
    have HK6 := hid (HK5h.out.later hb5)
    have HT6 := hid ((HT3.out.later hb5).set4 (R := w.heap.size) (by omega) (.int .i64 0) (.int .i64 s) (.slice (some ⟨w.heap.size + 1 + 1, 0, none⟩) m m) (.slice (some ⟨w1.heap.size, 0, none⟩) m m))
    obtain ⟨r0, r1, r2, r3, q0, q1, q2, q3⟩ := HK6.out.l.four
    have HB6 := hid HK6.out.b
    clear HK5h HK6 HT3 hb5
    go_wp2
    exact bodyPost_ret (v := .agg #[.int .i64 0, .int .i64 s, .slice (some ⟨w.heap.size + 1 + 1, 0, none⟩) m m, .slice (some ⟨w1.heap.size, 0, none⟩) m m]) (by simp [results, Tryd.results31, go_sem, r0, r1, r2, r3]) rfl ⟨_, _, rfl, HT6.out, below_cell (below_cell (below_cell (below_cell HB6.out (Nat.le_refl _) _ _) (Nat.le_refl _) _ _) (Nat.le_refl _) _ _) (Nat.le_refl _) _ _⟩
  · have HE : Hid (nlS s = 0 ∧ nlL s = []) := ⟨if_neg (by rw [hz]; decide), if_neg (by rw [hz]; decide)⟩
    rw [hz] at HS ⊢
    rw [HE.out.1, HE.out.2]
    clear hz
    go_enter Tryd.func31, Tryd.ntmps31
    go_wp2_with (go_at_call 83; refine (HS.out _).mono ?_; rintro e w' ⟨rfl, rfl⟩)
    exact bodyPost_ret (v := .agg #[.int .i64 3, .int .i64 0, .slice none 0 0, .slice none 0 0]) (by simp [results, Tryd.results31, go_sem]) rfl ⟨_, _, rfl, TW.nil _ _, bmore (Below.refl _ _) _⟩
end Go.Proofs.YtbakmphopgkpmaaDoor.LaN
