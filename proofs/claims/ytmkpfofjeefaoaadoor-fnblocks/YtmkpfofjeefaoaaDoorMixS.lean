/- The model's mixing and parting of two numbers. Condition: the numbers lie within MaxWide. -/
import Derived.Test.YtmkpfofjeefaoaaDoorTurM
namespace Go.Proofs.YtmkpfofjeefaoaaDoor.MixS
open Go.ChangeShapes Go.WideShapes Go.ChangeAt Go.RowKit Go.Proofs.YtmkpfofjeefaoaaDoor.Num Go.Proofs.YtmkpfofjeefaoaaDoor.Sli Go.Proofs.YtmkpfofjeefaoaaDoor.Div Go.Proofs.YtmkpfofjeefaoaaDoor.Samp Go.Proofs.YtmkpfofjeefaoaaDoor.TurM

theorem l5Mix_calls (a b : Int) (w : World) (ha : -137438953472 ≤ a ∧ a ≤ 137438953472) (hb : -137438953472 ≤ b ∧ b ≤ 137438953472) :
    Calls Tryd.prog 63 #[.int .i64 a, .int .i64 b] w fun e w' => e = .returned (.tuple #[.int .i64 (b + (a - b) / 2), .int .i64 (a - b)]) ∧ w' = w := by
  have HF := hid l1Floor_calls
  have hq : -274877906944 ≤ (a - b) / 2 ∧ (a - b) / 2 ≤ 274877906944 := by omega
  go_enter Tryd.func63, Tryd.ntmps63
  go_wp2_with (go_at_call 74; refine (HF.out _ _ _ (by omega) (by omega) (by omega) (by omega)).mono ?_; rintro e w' ⟨rfl, rfl⟩)
  exact bodyPost_ret (v := .tuple #[.int .i64 (b + (a - b) / 2), .int .i64 (a - b)]) (by simp [results, Tryd.results63, go_sem]) rfl ⟨rfl, rfl⟩
theorem l5Part_calls (a b : Int) (w : World) (ha : -137438953472 ≤ a ∧ a ≤ 137438953472) (hb : -137438953472 ≤ b ∧ b ≤ 137438953472) :
    Calls Tryd.prog 69 #[.int .i64 a, .int .i64 b] w fun e w' => e = .returned (.tuple #[.int .i64 (a - b / 2 + b), .int .i64 (a - b / 2)]) ∧ w' = w := by
  have HF := hid l1Floor_calls
  have hq : -274877906944 ≤ b / 2 ∧ b / 2 ≤ 274877906944 := by omega
  go_enter Tryd.func69, Tryd.ntmps69
  go_wp2_with (go_at_call 74; refine (HF.out _ _ _ (by omega) (by omega) (by omega) (by omega)).mono ?_; rintro e w' ⟨rfl, rfl⟩)
  exact bodyPost_ret (v := .tuple #[.int .i64 (a - b / 2 + b), .int .i64 (a - b / 2)]) (by simp [results, Tryd.results69, go_sem]) rfl ⟨rfl, rfl⟩
end Go.Proofs.YtmkpfofjeefaoaaDoor.MixS
