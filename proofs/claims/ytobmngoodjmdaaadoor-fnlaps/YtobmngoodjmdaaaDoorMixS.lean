/- The model's mixing and parting of two numbers. Condition: the numbers lie within MaxWide. -/
import Derived.Test.YtobmngoodjmdaaaDoorTurM
namespace Go.Proofs.YtobmngoodjmdaaaDoor.MixS
open Go.ChangeShapes Go.WideShapes Go.ChangeAt Go.RowKit Go.Proofs.YtobmngoodjmdaaaDoor.Num Go.Proofs.YtobmngoodjmdaaaDoor.Sli Go.Proofs.YtobmngoodjmdaaaDoor.Div Go.Proofs.YtobmngoodjmdaaaDoor.Samp Go.Proofs.YtobmngoodjmdaaaDoor.TurM

theorem l5Mix_calls (a b : Int) (w : World) (ha : -137438953472 ≤ a ∧ a ≤ 137438953472) (hb : -137438953472 ≤ b ∧ b ≤ 137438953472) :
    Calls Tryd.prog 132 #[.int .i64 a, .int .i64 b] w fun e w' => e = .returned (.tuple #[.int .i64 (b + (a - b) / 2), .int .i64 (a - b)]) ∧ w' = w := by
  have HF := hid l1Floor_calls
  have hq : -274877906944 ≤ (a - b) / 2 ∧ (a - b) / 2 ≤ 274877906944 := by omega
  go_enter Tryd.func132, Tryd.ntmps132
  go_wp2_with (go_at_call 134; refine (HF.out _ _ _ (by omega) (by omega) (by omega) (by omega)).mono ?_; rintro e w' ⟨rfl, rfl⟩)
  exact bodyPost_ret (v := .tuple #[.int .i64 (b + (a - b) / 2), .int .i64 (a - b)]) (by simp [results, Tryd.results132, go_sem]) rfl ⟨rfl, rfl⟩
theorem l5Part_calls (a b : Int) (w : World) (ha : -137438953472 ≤ a ∧ a ≤ 137438953472) (hb : -137438953472 ≤ b ∧ b ≤ 137438953472) :
    Calls Tryd.prog 133 #[.int .i64 a, .int .i64 b] w fun e w' => e = .returned (.tuple #[.int .i64 (a - b / 2 + b), .int .i64 (a - b / 2)]) ∧ w' = w := by
  have HF := hid l1Floor_calls
  have hq : -274877906944 ≤ b / 2 ∧ b / 2 ≤ 274877906944 := by omega
  go_enter Tryd.func133, Tryd.ntmps133
  go_wp2_with (go_at_call 134; refine (HF.out _ _ _ (by omega) (by omega) (by omega) (by omega)).mono ?_; rintro e w' ⟨rfl, rfl⟩)
  exact bodyPost_ret (v := .tuple #[.int .i64 (a - b / 2 + b), .int .i64 (a - b / 2)]) (by simp [results, Tryd.results133, go_sem]) rfl ⟨rfl, rfl⟩
end Go.Proofs.YtobmngoodjmdaaaDoor.MixS
