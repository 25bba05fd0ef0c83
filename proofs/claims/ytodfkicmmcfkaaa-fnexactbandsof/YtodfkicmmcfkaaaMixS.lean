/- The model's mixing and parting of two numbers. Condition: the numbers lie within MaxWide. -/
import Derived.Test.YtodfkicmmcfkaaaTurM
namespace Go.Proofs.Ytodfkicmmcfkaaa.MixS
open Go.ChangeShapes Go.WideShapes Go.ChangeAt Go.RowKit Go.Proofs.Ytodfkicmmcfkaaa.Num Go.Proofs.Ytodfkicmmcfkaaa.Sli Go.Proofs.Ytodfkicmmcfkaaa.Div Go.Proofs.Ytodfkicmmcfkaaa.Samp Go.Proofs.Ytodfkicmmcfkaaa.TurM

theorem l5Mix_calls (a b : Int) (w : World) (ha : -137438953472 ≤ a ∧ a ≤ 137438953472) (hb : -137438953472 ≤ b ∧ b ≤ 137438953472) :
    Calls Try.prog 81 #[.int .i64 a, .int .i64 b] w fun e w' => e = .returned (.tuple #[.int .i64 (b + (a - b) / 2), .int .i64 (a - b)]) ∧ w' = w := by
  have HF := hid l1Floor_calls
  have hq : -274877906944 ≤ (a - b) / 2 ∧ (a - b) / 2 ≤ 274877906944 := by omega
  go_enter Try.func81, Try.ntmps81
  go_wp2_with (go_at_call 82; refine (HF.out _ _ _ (by omega) (by omega) (by omega) (by omega)).mono ?_; rintro e w' ⟨rfl, rfl⟩)
  exact bodyPost_ret (v := .tuple #[.int .i64 (b + (a - b) / 2), .int .i64 (a - b)]) (by simp [results, Try.results81, go_sem]) rfl ⟨rfl, rfl⟩
end Go.Proofs.Ytodfkicmmcfkaaa.MixS
