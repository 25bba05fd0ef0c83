/- The exact laws of bands (all but BandsOf), for a program that answers by the common answers. Condition: the program's own contract, wherever nothing that was there before has turned. -/
import Derived.Test.YtnmjmknhlpmkoaaBanS
import Derived.Test.YtnmjmknhlpmkoaaBanT
import Derived.Test.YtnmjmknhlpmkoaaExJ
import Derived.Test.YtnmjmknhlpmkoaaToInt
import Derived.Test.YtnmjmknhlpmkoaaPar
import Derived.Test.YtnmjmknhlpmkoaaDiv
namespace Go.Proofs.Ytnmjmknhlpmkoaa.ExBa
open Go.ChangeShapes Go.WideShapes Go.ChangeAt Go.RowKit Go.Proofs.Ytnmjmknhlpmkoaa.Num Go.Proofs.Ytnmjmknhlpmkoaa.Sli Go.Proofs.Ytnmjmknhlpmkoaa.Div Go.Proofs.Ytnmjmknhlpmkoaa.App Go.Proofs.Ytnmjmknhlpmkoaa.Blk Go.Proofs.Ytnmjmknhlpmkoaa.Par Go.Proofs.Ytnmjmknhlpmkoaa.HalM Go.Proofs.Ytnmjmknhlpmkoaa.BanM Go.Proofs.Ytnmjmknhlpmkoaa.BanN Go.Proofs.Ytnmjmknhlpmkoaa.BanS Go.Proofs.Ytnmjmknhlpmkoaa.BanT Go.Proofs.Ytnmjmknhlpmkoaa.ExJ
open Go.Proofs.Ytnmjmknhlpmkoaa.IntL (OwI)
set_option maxHeartbeats 2000000 in
theorem exactPulsesFor_calls (m : Int) (w : World) 
    (HI0 : ∀ (W : World), Below w.heap.size w W → Calls Try.prog 12 #[.int .i64 m] W fun e w' => e = .returned (.agg #[.int .i64 (pqC m), .int .i64 (pqV m)]) ∧ Below W.heap.size W w') :
    Calls Try.prog 4 #[.int .i64 m] w fun e w' => e = .returned (.bool true) ∧ Below w.heap.size w w' := by
  have HI := hid HI0
  clear HI0
  go_enter Try.func4, Try.ntmps4
  go_wp2_with fail
  refine (specPulsesFor_calls m _).mono ?_
  rintro e w2 ⟨rfl, hb2⟩
  have HL2 := hid (bmore hb2 (.cells #[.int .i64 (pqC m), .int .i64 (pqV m)] 27))
  have HK2 := hid (Blk.new w2 #[.int .i64 (pqC m), .int .i64 (pqV m)] 27)
  clear hb2
  go_wp2_with fail
  refine (HI.out _ HL2.out).mono ?_
  rintro e w4 ⟨rfl, hb4⟩
  have HK4 := hid (HK2.out.later hb4)
  have HL4 := hid (bmore (bthen HL2.out hb4) (.cells #[.int .i64 (pqC m), .int .i64 (pqV m)] 27))
  obtain ⟨c0, c1, _⟩ := HK4.out.two
  have hlt := HK4.out.lt
  clear hb4 HI HK2 HL2
  go_wp2_with fail
  refine (eqIntResult_calls _ _ _).mono ?_
  rintro e w5 ⟨rfl, hb5⟩
  have HL5 := hid (bthen HL4.out hb5)
  clear hb5 c0 c1 hlt HK4
  go_wp2
  go_ret
  exact ⟨rfl, HL5.out⟩
set_option maxHeartbeats 2000000 in
theorem exactGainRung_calls (r : Int) (m : Int) (w : World) 
    (HI0 : ∀ (W : World), Below w.heap.size w W → Calls Try.prog 11 #[.int .i64 r, .int .i64 m] W fun e w' => e = .returned (.agg #[.int .i64 (grC r m), .int .i64 (grV r m)]) ∧ Below W.heap.size W w') :
    Calls Try.prog 5 #[.int .i64 r, .int .i64 m] w fun e w' => e = .returned (.bool true) ∧ Below w.heap.size w w' := by
  have HI := hid HI0
  clear HI0
  go_enter Try.func5, Try.ntmps5
  go_wp2_with fail
  refine (specGainRung_calls r m _).mono ?_
  rintro e w2 ⟨rfl, hb2⟩
  have HL2 := hid (bmore hb2 (.cells #[.int .i64 (grC r m), .int .i64 (grV r m)] 27))
  have HK2 := hid (Blk.new w2 #[.int .i64 (grC r m), .int .i64 (grV r m)] 27)
  clear hb2
  go_wp2_with fail
  refine (HI.out _ HL2.out).mono ?_
  rintro e w4 ⟨rfl, hb4⟩
  have HK4 := hid (HK2.out.later hb4)
  have HL4 := hid (bmore (bthen HL2.out hb4) (.cells #[.int .i64 (grC r m), .int .i64 (grV r m)] 27))
  obtain ⟨c0, c1, _⟩ := HK4.out.two
  have hlt := HK4.out.lt
  clear hb4 HI HK2 HL2
  go_wp2_with fail
  refine (eqIntResult_calls _ _ _).mono ?_
  rintro e w5 ⟨rfl, hb5⟩
  have HL5 := hid (bthen HL4.out hb5)
  clear hb5 c0 c1 hlt HK4
  go_wp2
  go_ret
  exact ⟨rfl, HL5.out⟩
set_option maxHeartbeats 2000000 in
theorem exactOwnerOf_calls (a : Int) (b : Int) (w : World) 
    (HI0 : ∀ (W : World), Below w.heap.size w W → Calls Try.prog 9 #[.int .i64 a, .int .i64 b] W fun e w' => e = .returned (.agg #[.int .i64 (owC a b), .int .i64 (owV a b)]) ∧ Below W.heap.size W w') :
    Calls Try.prog 6 #[.int .i64 a, .int .i64 b] w fun e w' => e = .returned (.bool true) ∧ Below w.heap.size w w' := by
  have HI := hid HI0
  clear HI0
  go_enter Try.func6, Try.ntmps6
  go_wp2_with fail
  refine (specOwnerOf_calls a b _).mono ?_
  rintro e w2 ⟨rfl, hb2⟩
  have HL2 := hid (bmore hb2 (.cells #[.int .i64 (owC a b), .int .i64 (owV a b)] 27))
  have HK2 := hid (Blk.new w2 #[.int .i64 (owC a b), .int .i64 (owV a b)] 27)
  clear hb2
  go_wp2_with fail
  refine (HI.out _ HL2.out).mono ?_
  rintro e w4 ⟨rfl, hb4⟩
  have HK4 := hid (HK2.out.later hb4)
  have HL4 := hid (bmore (bthen HL2.out hb4) (.cells #[.int .i64 (owC a b), .int .i64 (owV a b)] 27))
  obtain ⟨c0, c1, _⟩ := HK4.out.two
  have hlt := HK4.out.lt
  clear hb4 HI HK2 HL2
  go_wp2_with fail
  refine (eqIntResult_calls _ _ _).mono ?_
  rintro e w5 ⟨rfl, hb5⟩
  have HL5 := hid (bthen HL4.out hb5)
  clear hb5 c0 c1 hlt HK4
  go_wp2
  go_ret
  exact ⟨rfl, HL5.out⟩
end Go.Proofs.Ytnmjmknhlpmkoaa.ExBa
