/- TurnOf, TurnPair and BackPair of the model: what they return at every argument. No conditions. -/
import Derived.Test.YtodfkicmmcfkaaaPar
namespace Go.Proofs.Ytodfkicmmcfkaaa.TurS
open Go.ChangeShapes Go.WideShapes Go.ChangeAt Go.RowKit Go.Proofs.Ytodfkicmmcfkaaa.Num Go.Proofs.Ytodfkicmmcfkaaa.Sli Go.Proofs.Ytodfkicmmcfkaaa.Div Go.Proofs.Ytodfkicmmcfkaaa.Samp Go.Proofs.Ytodfkicmmcfkaaa.Blk Go.Proofs.Ytodfkicmmcfkaaa.TurM Go.Proofs.Ytodfkicmmcfkaaa.Par

set_option maxHeartbeats 4000000 in
theorem l5P_row (k : Nat) (hk : k < 14) (w : World) :
    Calls Try.prog 79 #[.int .i64 (rS k), .int .i64 (rN k)] w fun e w' => e = .returned (.int .i64 (rP k)) ∧ w' = w := by
  rcases k with _ | _ | _ | _ | _ | _ | _ | _ | _ | _ | _ | _ | _ | _ | k
  all_goals first
    | omega
    | (simp only [rS, rN, rP, rowL, List.getD_cons_zero, List.getD_cons_succ]
       go_enter Try.func79, Try.ntmps79
       go_wp2
       go_ret
       exact ⟨rfl, rfl⟩)
theorem l5P_calls (s n : Int) (w : World) (h : tOk s n = true) :
    Calls Try.prog 79 #[.int .i64 s, .int .i64 n] w fun e w' => e = .returned (.int .i64 (pV s n)) ∧ w' = w := by
  obtain ⟨k, hk, e1, e2, e3, _⟩ := ok_cases h
  rw [e3, e1, e2]
  exact l5P_row k hk w
set_option maxHeartbeats 4000000 in
theorem l5U_row (k : Nat) (hk : k < 14) (w : World) :
    Calls Try.prog 80 #[.int .i64 (rS k), .int .i64 (rN k)] w fun e w' => e = .returned (.int .i64 (rU k)) ∧ w' = w := by
  rcases k with _ | _ | _ | _ | _ | _ | _ | _ | _ | _ | _ | _ | _ | _ | k
  all_goals first
    | omega
    | (simp only [rS, rN, rU, rowL, List.getD_cons_zero, List.getD_cons_succ]
       go_enter Try.func80, Try.ntmps80
       go_wp2
       go_ret
       exact ⟨rfl, rfl⟩)
theorem l5U_calls (s n : Int) (w : World) (h : tOk s n = true) :
    Calls Try.prog 80 #[.int .i64 s, .int .i64 n] w fun e w' => e = .returned (.int .i64 (uV s n)) ∧ w' = w := by
  obtain ⟨k, hk, e1, e2, _, e4⟩ := ok_cases h
  rw [e4, e1, e2]
  exact l5U_row k hk w
set_option maxHeartbeats 2000000 in
theorem l5Turn_calls (s n a b : Int) (w : World) (h : tOk s n = true) (ha : -137438953472 ≤ a ∧ a ≤ 137438953472) (hb : -137438953472 ≤ b ∧ b ≤ 137438953472) :
    Calls Try.prog 75 #[.int .i64 s, .int .i64 n, .int .i64 a, .int .i64 b] w fun e w' => e = .returned (.tuple #[.int .i64 (ahA (pV s n) (uV s n) a b), .int .i64 (ahB (pV s n) (uV s n) a b)]) ∧ w' = w := by
  obtain ⟨m1, t1, m2, t2, m3, t3⟩ := ah_bd (pu_bd h) ha hb
  have HP := hid (fun W => l5P_calls s n W h)
  have HU := hid (fun W => l5U_calls s n W h)
  have HT := hid l1Ten_calls
  have HE : Hid (ahA (pV s n) (uV s n) a b = (a - tenV (pV s n * b)) - tenV (pV s n * (b + tenV (uV s n * (a - tenV (pV s n * b))))) ∧ ahB (pV s n) (uV s n) a b = b + tenV (uV s n * (a - tenV (pV s n * b)))) := ⟨rfl, rfl⟩
  generalize ahA (pV s n) (uV s n) a b = rA at *
  generalize ahB (pV s n) (uV s n) a b = rB at *
  clear h
  generalize pV s n = p at *
  generalize uV s n = u at *
  go_enter Try.func75, Try.ntmps75
  go_wp2_with (first | (go_at_call 79; refine (HP.out _).mono ?_; rintro e w' ⟨rfl, rfl⟩) | (go_at_call 80; refine (HU.out _).mono ?_; rintro e w' ⟨rfl, rfl⟩) | (go_at_call 78; refine (HT.out _ _ (by omega) (by omega)).mono ?_; rintro e w' ⟨rfl, rfl⟩))
  exact bodyPost_ret (v := .tuple #[.int .i64 rA, .int .i64 rB]) (by rw [HE.out.1, HE.out.2]; simp [results, Try.results75, go_sem]) rfl ⟨rfl, rfl⟩
set_option maxHeartbeats 2000000 in
theorem l5Back_calls (s n a b : Int) (w : World) (h : tOk s n = true) (ha : -137438953472 ≤ a ∧ a ≤ 137438953472) (hb : -137438953472 ≤ b ∧ b ≤ 137438953472) :
    Calls Try.prog 74 #[.int .i64 s, .int .i64 n, .int .i64 a, .int .i64 b] w fun e w' => e = .returned (.tuple #[.int .i64 (bkA (pV s n) (uV s n) a b), .int .i64 (bkB (pV s n) (uV s n) a b)]) ∧ w' = w := by
  obtain ⟨m1, t1, m2, t2, m3, t3⟩ := bk_bd (pu_bd h) ha hb
  have HP := hid (fun W => l5P_calls s n W h)
  have HU := hid (fun W => l5U_calls s n W h)
  have HT := hid l1Ten_calls
  have HE : Hid (bkA (pV s n) (uV s n) a b = (a + tenV (pV s n * b)) + tenV (pV s n * (b - tenV (uV s n * (a + tenV (pV s n * b))))) ∧ bkB (pV s n) (uV s n) a b = b - tenV (uV s n * (a + tenV (pV s n * b)))) := ⟨rfl, rfl⟩
  generalize bkA (pV s n) (uV s n) a b = rA at *
  generalize bkB (pV s n) (uV s n) a b = rB at *
  clear h
  generalize pV s n = p at *
  generalize uV s n = u at *
  go_enter Try.func74, Try.ntmps74
  go_wp2_with (first | (go_at_call 79; refine (HP.out _).mono ?_; rintro e w' ⟨rfl, rfl⟩) | (go_at_call 80; refine (HU.out _).mono ?_; rintro e w' ⟨rfl, rfl⟩) | (go_at_call 78; refine (HT.out _ _ (by omega) (by omega)).mono ?_; rintro e w' ⟨rfl, rfl⟩))
  exact bodyPost_ret (v := .tuple #[.int .i64 rA, .int .i64 rB]) (by rw [HE.out.1, HE.out.2]; simp [results, Try.results74, go_sem]) rfl ⟨rfl, rfl⟩
end Go.Proofs.Ytodfkicmmcfkaaa.TurS
