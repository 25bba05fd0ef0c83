/- TurnOf, TurnPair and BackPair of the model: what they return at every argument. No conditions. -/
import Derived.Test.YtbakmphopgkpmaaDoorGb
namespace Go.Proofs.YtbakmphopgkpmaaDoor.TurS
open Go.ChangeShapes Go.WideShapes Go.ChangeAt Go.RowKit Go.Proofs.YtbakmphopgkpmaaDoor.Num Go.Proofs.YtbakmphopgkpmaaDoor.Sli Go.Proofs.YtbakmphopgkpmaaDoor.Div Go.Proofs.YtbakmphopgkpmaaDoor.Samp Go.Proofs.YtbakmphopgkpmaaDoor.Blk Go.Proofs.YtbakmphopgkpmaaDoor.TurM Go.Proofs.YtbakmphopgkpmaaDoor.Par

set_option maxHeartbeats 4000000 in
theorem l5P_row (k : Nat) (hk : k < 14) (w : World) :
    Calls Tryd.prog 98 #[.int .i64 (rS k), .int .i64 (rN k)] w fun e w' => e = .returned (.int .i64 (rP k)) ∧ w' = w := by
  rcases k with _ | _ | _ | _ | _ | _ | _ | _ | _ | _ | _ | _ | _ | _ | k
  all_goals first
    | omega
    | (simp only [rS, rN, rP, rowL, List.getD_cons_zero, List.getD_cons_succ]
       go_enter Tryd.func98, Tryd.ntmps98
       go_wp2
       go_ret
       exact ⟨rfl, rfl⟩)
theorem l5P_calls (s n : Int) (w : World) (h : tOk s n = true) :
    Calls Tryd.prog 98 #[.int .i64 s, .int .i64 n] w fun e w' => e = .returned (.int .i64 (pV s n)) ∧ w' = w := by
  obtain ⟨k, hk, e1, e2, e3, _⟩ := ok_cases h
  rw [e3, e1, e2]
  exact l5P_row k hk w
set_option maxHeartbeats 4000000 in
theorem l5U_row (k : Nat) (hk : k < 14) (w : World) :
    Calls Tryd.prog 99 #[.int .i64 (rS k), .int .i64 (rN k)] w fun e w' => e = .returned (.int .i64 (rU k)) ∧ w' = w := by
  rcases k with _ | _ | _ | _ | _ | _ | _ | _ | _ | _ | _ | _ | _ | _ | k
  all_goals first
    | omega
    | (simp only [rS, rN, rU, rowL, List.getD_cons_zero, List.getD_cons_succ]
       go_enter Tryd.func99, Tryd.ntmps99
       go_wp2
       go_ret
       exact ⟨rfl, rfl⟩)
theorem l5U_calls (s n : Int) (w : World) (h : tOk s n = true) :
    Calls Tryd.prog 99 #[.int .i64 s, .int .i64 n] w fun e w' => e = .returned (.int .i64 (uV s n)) ∧ w' = w := by
  obtain ⟨k, hk, e1, e2, _, e4⟩ := ok_cases h
  rw [e4, e1, e2]
  exact l5U_row k hk w
theorem field0 (c a b : Value) (w : World) : (Instr.field 27 (.agg #[c, a, b]) 0).run Tryd.prog w = .ok c w := by kernel_rfl
attribute [local go_sem] field0
set_option maxHeartbeats 1000000 in
theorem specTurnOf_calls (s n : Int) (w : World) :
    Calls Tryd.prog 53 #[.int .i64 s, .int .i64 n] w fun e w' => e = .returned (.agg #[.int .i64 (tC s n), .int .i64 (tA s n), .int .i64 (tB s n)]) ∧ Below w.heap.size w w' := by
  have HS := hid (specSizeFault_calls s)
  have HI := hid l1In_calls
  rcases sz_03 s with hs | hs
  · rw [hs] at HS
    have hsb : 4 ≤ s ∧ s ≤ 16 := by rcases sz_cases hs with rfl | rfl | rfl <;> omega
    have hq : s.tdiv 2 = s / 2 := by rcases sz_cases hs with rfl | rfl | rfl <;> rfl
    cases h : tOk s n
    · obtain ⟨e1, e2, e3⟩ := t_no h
      have hi : inB 0 (s / 2 - 1) n = false := by
        have := of_decide_eq_false h
        exact decide_eq_false (by omega)
      have HI1 := hid (HI.out n 0 (s / 2 - 1))
      rw [hi] at HI1
      have HE := hid (And.intro e1 (And.intro e2 e3))
      clear e1 e2 e3 h hi HI hs
      go_enter Tryd.func53, Tryd.ntmps53
      go_wp2_with (first | (go_at_call 81; refine (HS.out _).mono ?_; rintro e w' ⟨rfl, rfl⟩) | (go_at_call 97; refine (HI1.out _).mono ?_; rintro e w' ⟨rfl, rfl⟩))
      exact bodyPost_ret (v := .agg #[.int .i64 3, .int .i64 0, .int .i64 0]) (by simp [results, Tryd.results53, go_sem]) rfl ⟨by rw [HE.out.1, HE.out.2.1, HE.out.2.2], bmore (Below.refl _ _) _⟩
    · obtain ⟨e1, e2, e3⟩ := t_yes h
      have hi : inB 0 (s / 2 - 1) n = true := by
        have := of_decide_eq_true h
        exact decide_eq_true (by omega)
      have HI1 := hid (HI.out n 0 (s / 2 - 1))
      rw [hi] at HI1
      have HE := hid (And.intro e1 (And.intro e2 e3))
      have HP := hid (fun W => l5P_calls s n W h)
      have HU := hid (fun W => l5U_calls s n W h)
      clear e1 e2 e3 h hi HI hs
      generalize pV s n = p at *
      generalize uV s n = u at *
      go_enter Tryd.func53, Tryd.ntmps53
      go_wp2_with (first | (go_at_call 81; refine (HS.out _).mono ?_; rintro e w' ⟨rfl, rfl⟩) | (go_at_call 97; refine (HI1.out _).mono ?_; rintro e w' ⟨rfl, rfl⟩) | (go_at_call 98; refine (HP.out _).mono ?_; rintro e w' ⟨rfl, rfl⟩) | (go_at_call 99; refine (HU.out _).mono ?_; rintro e w' ⟨rfl, rfl⟩))
      exact bodyPost_ret (v := .agg #[.int .i64 0, .int .i64 p, .int .i64 u]) (by simp [results, Tryd.results53, go_sem]) rfl ⟨by rw [HE.out.1, HE.out.2.1, HE.out.2.2], bmore (Below.refl _ _) _⟩
  · have HE : Hid (3 = tC s n ∧ 0 = tA s n ∧ 0 = tB s n) := by
      have ht : tOk s n = false := decide_eq_false (by rw [hs]; omega)
      obtain ⟨h1, h2, h3⟩ := t_no ht
      exact ⟨h1.symm, h2.symm, h3.symm⟩
    rw [hs] at HS
    clear hs HI
    go_enter Tryd.func53, Tryd.ntmps53
    go_wp2_with (go_at_call 81; refine (HS.out _).mono ?_; rintro e w' ⟨rfl, rfl⟩)
    exact bodyPost_ret (v := .agg #[.int .i64 3, .int .i64 0, .int .i64 0]) (by simp [results, Tryd.results53, go_sem]) rfl ⟨by rw [← HE.out.1, ← HE.out.2.1, ← HE.out.2.2], bmore (Below.refl _ _) _⟩
set_option maxHeartbeats 2000000 in
theorem l5Turn_calls (s n a b : Int) (w : World) (h : tOk s n = true) (ha : -137438953472 ≤ a ∧ a ≤ 137438953472) (hb : -137438953472 ≤ b ∧ b ≤ 137438953472) :
    Calls Tryd.prog 129 #[.int .i64 s, .int .i64 n, .int .i64 a, .int .i64 b] w fun e w' => e = .returned (.tuple #[.int .i64 (ahA (pV s n) (uV s n) a b), .int .i64 (ahB (pV s n) (uV s n) a b)]) ∧ w' = w := by
  obtain ⟨m1, t1, m2, t2, m3, t3⟩ := ah_bd (pu_bd h) ha hb
  have HP := hid (fun W => l5P_calls s n W h)
  have HU := hid (fun W => l5U_calls s n W h)
  have HT := hid l1Ten_calls
  have HE : Hid (ahA (pV s n) (uV s n) a b = (a - tenV (pV s n * b)) - tenV (pV s n * (b + tenV (uV s n * (a - tenV (pV s n * b))))) ∧ ahB (pV s n) (uV s n) a b = b + tenV (uV s n * (a - tenV (pV s n * b)))) := ⟨rfl, rfl⟩
  generalize ahA (pV s n) (uV s n) a b = rA at *
  generalize ahB (pV s n) (uV s n) a b = rB at *
  clear h
  generalize pV s n = p at *
  generalize uV s n = u at *
  go_enter Tryd.func129, Tryd.ntmps129
  go_wp2_with (first | (go_at_call 98; refine (HP.out _).mono ?_; rintro e w' ⟨rfl, rfl⟩) | (go_at_call 99; refine (HU.out _).mono ?_; rintro e w' ⟨rfl, rfl⟩) | (go_at_call 130; refine (HT.out _ _ (by omega) (by omega)).mono ?_; rintro e w' ⟨rfl, rfl⟩))
  exact bodyPost_ret (v := .tuple #[.int .i64 rA, .int .i64 rB]) (by rw [HE.out.1, HE.out.2]; simp [results, Tryd.results129, go_sem]) rfl ⟨rfl, rfl⟩
set_option maxHeartbeats 2000000 in
theorem l5Back_calls (s n a b : Int) (w : World) (h : tOk s n = true) (ha : -137438953472 ≤ a ∧ a ≤ 137438953472) (hb : -137438953472 ≤ b ∧ b ≤ 137438953472) :
    Calls Tryd.prog 124 #[.int .i64 s, .int .i64 n, .int .i64 a, .int .i64 b] w fun e w' => e = .returned (.tuple #[.int .i64 (bkA (pV s n) (uV s n) a b), .int .i64 (bkB (pV s n) (uV s n) a b)]) ∧ w' = w := by
  obtain ⟨m1, t1, m2, t2, m3, t3⟩ := bk_bd (pu_bd h) ha hb
  have HP := hid (fun W => l5P_calls s n W h)
  have HU := hid (fun W => l5U_calls s n W h)
  have HT := hid l1Ten_calls
  have HE : Hid (bkA (pV s n) (uV s n) a b = (a + tenV (pV s n * b)) + tenV (pV s n * (b - tenV (uV s n * (a + tenV (pV s n * b))))) ∧ bkB (pV s n) (uV s n) a b = b - tenV (uV s n * (a + tenV (pV s n * b)))) := ⟨rfl, rfl⟩
  generalize bkA (pV s n) (uV s n) a b = rA at *
  generalize bkB (pV s n) (uV s n) a b = rB at *
  clear h
  generalize pV s n = p at *
  generalize uV s n = u at *
  go_enter Tryd.func124, Tryd.ntmps124
  go_wp2_with (first | (go_at_call 98; refine (HP.out _).mono ?_; rintro e w' ⟨rfl, rfl⟩) | (go_at_call 99; refine (HU.out _).mono ?_; rintro e w' ⟨rfl, rfl⟩) | (go_at_call 130; refine (HT.out _ _ (by omega) (by omega)).mono ?_; rintro e w' ⟨rfl, rfl⟩))
  exact bodyPost_ret (v := .tuple #[.int .i64 rA, .int .i64 rB]) (by rw [HE.out.1, HE.out.2]; simp [results, Tryd.results124, go_sem]) rfl ⟨rfl, rfl⟩
end Go.Proofs.YtbakmphopgkpmaaDoor.TurS
