/- The model's index for two paths: both numbers, the index of two numbers, what a number tells, cells. Conditions: none for what is exported; numbers within bounds for what it calls. -/
import Derived.Test.YtlbklghegonfeaaPaiM
import Derived.Test.YtlbklghegonfeaaDiv
import Derived.Test.YtlbklghegonfeaaSli
import Derived.Test.YtlbklghegonfeaaIntA
import Derived.Test.YtlbklghegonfeaaBlk
import Derived.Test.YtlbklghegonfeaaPar
namespace Go.Proofs.Ytlbklghegonfeaa.PaiS
open Go.ChangeShapes Go.WideShapes Go.ChangeAt Go.RowKit Go.Proofs.Ytlbklghegonfeaa.Num Go.Proofs.Ytlbklghegonfeaa.Div Go.Proofs.Ytlbklghegonfeaa.Sli Go.Proofs.Ytlbklghegonfeaa.App Go.Proofs.Ytlbklghegonfeaa.Blk Go.Proofs.Ytlbklghegonfeaa.IntL Go.Proofs.Ytlbklghegonfeaa.IntA Go.Proofs.Ytlbklghegonfeaa.Par Go.Proofs.Ytlbklghegonfeaa.HalM Go.Proofs.Ytlbklghegonfeaa.PaiM

theorem l10Spread_calls (k : Int) (w : World) : Calls Try.prog 32 #[.int .i64 k] w fun e w' => e = .returned (.bool (spB k)) ∧ w' = w := by
  have HI := hid (l1In_calls k 0 2)
  go_enter Try.func32, Try.ntmps32
  go_wp2_with (go_at_call 31; refine (HI.out _).mono ?_; rintro e w' ⟨rfl, rfl⟩)
  go_ret
  exact ⟨rfl, rfl⟩
theorem l10Index_calls (q : Int) (w : World) : Calls Try.prog 19 #[.int .i64 q] w fun e w' => e = .returned (.bool (ixB q)) ∧ w' = w := by
  have HI := hid (l1In_calls q (-30000) 30000)
  go_enter Try.func19, Try.ntmps19
  go_wp2_with (go_at_call 31; refine (HI.out _).mono ?_; rintro e w' ⟨rfl, rfl⟩)
  go_ret
  exact ⟨rfl, rfl⟩
set_option maxHeartbeats 1000000 in
theorem l10Split_calls (q k : Int) (t : Bool) (w : World) (h1 : -1000000 ≤ q) (h2 : q ≤ 1000000) :
    Calls Try.prog 33 #[.int .i64 q, .int .i64 k, .bool t] w fun e w' => e = .returned (.tuple #[.int .i64 (paF q k t), .int .i64 (paG q k t)]) ∧ w' = w := by
  have HF := hid l1Floor_calls
  by_cases e1 : k = 1
  · subst e1
    obtain ⟨ea, eb⟩ := pA1 q
    have H : Hid (((q + 1) / 2 = paA q 1) ∧ q / 2 = paB q 1) := ⟨ea.symm, eb.symm⟩
    clear ea eb
    cases t
    · go_enter Try.func33, Try.ntmps33
      go_wp2_with (go_at_call 38; refine (HF.out _ _ _ (by omega) (by omega) (by omega) (by omega)).mono ?_; rintro e w' ⟨rfl, rfl⟩)
      go_ret2
      exact ⟨by rw [H.out.1, H.out.2]; rfl, rfl⟩
    · go_enter Try.func33, Try.ntmps33
      go_wp2_with (go_at_call 38; refine (HF.out _ _ _ (by omega) (by omega) (by omega) (by omega)).mono ?_; rintro e w' ⟨rfl, rfl⟩)
      go_ret2
      exact ⟨by rw [H.out.1, H.out.2]; rfl, rfl⟩
  · by_cases e2 : k = 2
    · subst e2
      obtain ⟨u, hu⟩ := pA2 q
      have hd : q / 3 = u := by omega
      have HFq := hid (fun W => HF.out q 3 W (by omega) (by omega) (by omega) (by omega))
      rw [hd] at HFq
      rcases hu with ⟨hq, ea, eb⟩ | ⟨hq, ea, eb⟩ | ⟨hq, ea, eb⟩
      · have H : Hid (u = paA q 2 ∧ u = paB q 2) := ⟨ea.symm, eb.symm⟩
        have hub : -400000 ≤ u ∧ u ≤ 400000 := by omega
        have b1 : (q == 3 * u + 1) = false := by rw [hq]; simp <;> omega
        have b2 : (q == 3 * u + 2) = false := by rw [hq]; simp <;> omega
        clear ea eb hd HF hq
        cases t
        · go_enter Try.func33, Try.ntmps33
          go_wp2_with (go_at_call 38; refine (HFq.out _).mono ?_; rintro e w' ⟨rfl, rfl⟩)
          go_ret2
          exact ⟨by show _ = Ending.returned (.tuple #[.int .i64 (paA q 2), .int .i64 (paB q 2)]); rw [← H.out.1, ← H.out.2]; rfl, rfl⟩
        · go_enter Try.func33, Try.ntmps33
          go_wp2_with (go_at_call 38; refine (HFq.out _).mono ?_; rintro e w' ⟨rfl, rfl⟩)
          go_ret2
          exact ⟨by show _ = Ending.returned (.tuple #[.int .i64 (paB q 2), .int .i64 (paA q 2)]); rw [← H.out.1, ← H.out.2]; rfl, rfl⟩
      · have H : Hid (u = paA q 2 ∧ (u + 1) = paB q 2) := ⟨ea.symm, eb.symm⟩
        have hub : -400000 ≤ u ∧ u ≤ 400000 := by omega
        have b1 : (q == 3 * u + 1) = true := by rw [hq]; simp
        have b2 : (q == 3 * u + 2) = false := by rw [hq]; simp <;> omega
        clear ea eb hd HF hq
        cases t
        · go_enter Try.func33, Try.ntmps33
          go_wp2_with (go_at_call 38; refine (HFq.out _).mono ?_; rintro e w' ⟨rfl, rfl⟩)
          go_ret2
          exact ⟨by show _ = Ending.returned (.tuple #[.int .i64 (paA q 2), .int .i64 (paB q 2)]); rw [← H.out.1, ← H.out.2]; rfl, rfl⟩
        · go_enter Try.func33, Try.ntmps33
          go_wp2_with (go_at_call 38; refine (HFq.out _).mono ?_; rintro e w' ⟨rfl, rfl⟩)
          go_ret2
          exact ⟨by show _ = Ending.returned (.tuple #[.int .i64 (paB q 2), .int .i64 (paA q 2)]); rw [← H.out.1, ← H.out.2]; rfl, rfl⟩
      · have H : Hid ((u + 1) = paA q 2 ∧ u = paB q 2) := ⟨ea.symm, eb.symm⟩
        have hub : -400000 ≤ u ∧ u ≤ 400000 := by omega
        have b1 : (q == 3 * u + 1) = false := by rw [hq]; simp <;> omega
        have b2 : (q == 3 * u + 2) = true := by rw [hq]; simp
        clear ea eb hd HF hq
        cases t
        · go_enter Try.func33, Try.ntmps33
          go_wp2_with (go_at_call 38; refine (HFq.out _).mono ?_; rintro e w' ⟨rfl, rfl⟩)
          go_ret2
          exact ⟨by show _ = Ending.returned (.tuple #[.int .i64 (paA q 2), .int .i64 (paB q 2)]); rw [← H.out.1, ← H.out.2]; rfl, rfl⟩
        · go_enter Try.func33, Try.ntmps33
          go_wp2_with (go_at_call 38; refine (HFq.out _).mono ?_; rintro e w' ⟨rfl, rfl⟩)
          go_ret2
          exact ⟨by show _ = Ending.returned (.tuple #[.int .i64 (paB q 2), .int .i64 (paA q 2)]); rw [← H.out.1, ← H.out.2]; rfl, rfl⟩
    · have b1 : (k == 1) = false := by simpa using e1
      have b2 : (k == 2) = false := by simpa using e2
      have ea : paA q k = q := by unfold paA; rw [if_neg e1, if_neg e2]
      have eb : paB q k = q := by unfold paB; rw [if_neg e1, if_neg e2]
      have H : Hid (q = paA q k ∧ q = paB q k) := ⟨ea.symm, eb.symm⟩
      clear ea eb e1 e2 HF
      cases t
      · go_enter Try.func33, Try.ntmps33
        go_wp2
        go_ret2
        exact ⟨by show _ = Ending.returned (.tuple #[.int .i64 (paA q k), .int .i64 (paB q k)]); rw [← H.out.1, ← H.out.2]; rfl, rfl⟩
      · go_enter Try.func33, Try.ntmps33
        go_wp2
        go_ret2
        exact ⟨by show _ = Ending.returned (.tuple #[.int .i64 (paB q k), .int .i64 (paA q k)]); rw [← H.out.1, ← H.out.2]; rfl, rfl⟩
theorem l10Side_calls (s k : Int) (w : World) : Calls Try.prog 18 #[.int .i64 s, .int .i64 k] w fun e w' => e = .returned (.bool (sdO s k)) ∧ w' = w := by
  have HI := hid (l1In_calls s 0 1)
  have HS := hid (l10Spread_calls k)
  have H : Hid ((inB 0 1 s && spB k) = sdO s k) := rfl
  cases h : inB 0 1 s
  · rw [h] at HI H
    clear h
    go_enter Try.func18, Try.ntmps18
    go_wp2_with (go_at_call 31; refine (HI.out _).mono ?_; rintro e w' ⟨rfl, rfl⟩)
    go_ret
    exact ⟨by rw [← H.out]; rfl, rfl⟩
  · rw [h] at HI H
    clear h
    go_enter Try.func18, Try.ntmps18
    go_wp2_with (first | (go_at_call 31; refine (HI.out _).mono ?_; rintro e w' ⟨rfl, rfl⟩) | (go_at_call 32; refine (HS.out _).mono ?_; rintro e w' ⟨rfl, rfl⟩))
    go_ret
    exact ⟨by rw [← H.out]; rfl, rfl⟩
theorem l10Off_calls (s k : Int) (t : Bool) (w : World) : Calls Try.prog 23 #[.int .i64 s, .int .i64 k, .bool t] w fun e w' => e = .returned (.int .i64 (ofV s k t)) ∧ w' = w := by
  have H : Hid ((if (k == 2 && !((s == 1) != t)) = true then 1 else k) = ofV s k t) := rfl
  by_cases h2 : k = 2
  · subst h2
    by_cases h1 : s = 1
    · subst h1
      cases t
      · go_enter Try.func23, Try.ntmps23
        go_wp2
        go_ret
        exact ⟨by rw [← H.out]; rfl, rfl⟩
      · go_enter Try.func23, Try.ntmps23
        go_wp2
        go_ret
        exact ⟨by rw [← H.out]; rfl, rfl⟩
    · have b1 : (s == 1) = false := by simpa using h1
      rw [b1] at H
      clear h1
      cases t
      · go_enter Try.func23, Try.ntmps23
        go_wp2
        go_ret
        exact ⟨by rw [← H.out]; rfl, rfl⟩
      · go_enter Try.func23, Try.ntmps23
        go_wp2
        go_ret
        exact ⟨by rw [← H.out]; rfl, rfl⟩
  · have b2 : (k == 2) = false := by simpa using h2
    rw [b2] at H
    have HE : Hid (k = ofV s k t) := by show _ = _; rw [← H.out]; rfl
    clear h2 H
    generalize ofV s k t = o at *
    go_enter Try.func23, Try.ntmps23
    go_wp2
    go_ret
    exact ⟨by rw [HE.out]; rfl, rfl⟩
theorem specSpreadOf_calls (s k : Int) (t : Bool) (w : World) : Calls Try.prog 9 #[.int .i64 s, .int .i64 k, .bool t] w fun e w' => e = .returned (.agg #[.int .i64 (soC s k), .int .i64 (soV s k t)]) ∧ Below w.heap.size w w' := by
  have HK := hid (l10Side_calls s k)
  have HO := hid (l10Off_calls s k t)
  cases hk : sdO s k
  · have H : Hid (3 = soC s k ∧ 0 = soV s k t) := ⟨(if_neg (by rw [hk]; decide)).symm, (if_neg (by rw [hk]; decide)).symm⟩
    rw [hk] at HK
    clear hk
    go_enter Try.func9, Try.ntmps9
    go_wp2_with (go_at_call 18; refine (HK.out _).mono ?_; rintro e w' ⟨rfl, rfl⟩)
    exact bodyPost_ret (v := .agg #[.int .i64 3, .int .i64 0]) (by simp [results, Try.results9, go_sem]) rfl ⟨ret_two H.out.1 H.out.2, bmore (Below.refl _ _) _⟩
  · have H : Hid (0 = soC s k ∧ ofV s k t = soV s k t) := ⟨(if_pos hk).symm, (if_pos hk).symm⟩
    rw [hk] at HK
    clear hk
    generalize ofV s k t = o at *
    go_enter Try.func9, Try.ntmps9
    go_wp2_with (first | (go_at_call 18; refine (HK.out _).mono ?_; rintro e w' ⟨rfl, rfl⟩) | (go_at_call 23; refine (HO.out _).mono ?_; rintro e w' ⟨rfl, rfl⟩))
    exact bodyPost_ret (v := .agg #[.int .i64 0, .int .i64 o]) (by simp [results, Try.results9, go_sem]) rfl ⟨ret_two H.out.1 H.out.2, bmore (Below.refl _ _) _⟩
end Go.Proofs.Ytlbklghegonfeaa.PaiS
