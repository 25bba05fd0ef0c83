/- The exact laws of the ladder, for a program that answers by the common answers. Condition: the program's own contract, wherever nothing that was there before has turned. -/
import Derived.Test.YthmmjdippdnieaaLadF
import Derived.Test.YthmmjdippdnieaaGa
namespace Go.Proofs.Ythmmjdippdnieaa.ExLa
open Go.ChangeShapes Go.WideShapes Go.ChangeAt Go.RowKit Go.Proofs.Ythmmjdippdnieaa.Num Go.Proofs.Ythmmjdippdnieaa.Sli Go.Proofs.Ythmmjdippdnieaa.ToInt Go.Proofs.Ythmmjdippdnieaa.Div Go.Proofs.Ythmmjdippdnieaa.LadM Go.Proofs.Ythmmjdippdnieaa.LadS Go.Proofs.Ythmmjdippdnieaa.LadF

theorem exactStepOf_calls (r : Int) (w : World) (HI : ∀ W, Below w.heap.size w W → Calls Try.prog 12 #[.int .i64 r] W fun e w' => e = .returned (.agg #[.int .i64 (soC r), .int .i64 (soV r)]) ∧ Below W.heap.size W w') :
    Calls Try.prog 4 #[.int .i64 r] w fun e w' => e = .returned (.bool true) ∧ Below w.heap.size w w' := by
  have HP := hid HI
  clear HI
  go_enter Try.func4, Try.ntmps4
  go_wp2_with fail
  refine (specStepOf_calls _ _).mono ?_
  rintro e w1 ⟨rfl, hb1⟩
  have HB1 := hid (bmore hb1 (.cells #[.int .i64 (soC r), .int .i64 (soV r)] 27))
  go_wp2_with fail
  refine (HP.out _ HB1.out).mono ?_
  rintro e w2 ⟨rfl, hb2⟩
  obtain ⟨hc, hf⟩ := bcell hb2
  have hz : w1.heap.size < w2.heap.size := by have := hb2.size; simp at this; omega
  go_wp2_with fail
  refine (eqIntResult_calls _ _ _).mono ?_
  rintro e w3 ⟨rfl, hb3⟩
  clear hc hf
  go_wp2
  go_ret
  exact ⟨rfl, bthen (bmore (bthen HB1.out hb2) _) hb3⟩
theorem exactHalfStep_calls (r : Int) (w : World) (HI : ∀ W, Below w.heap.size w W → Calls Try.prog 13 #[.int .i64 r] W fun e w' => e = .returned (.agg #[.int .i64 (soC r), .int .i64 (hsV r)]) ∧ Below W.heap.size W w') :
    Calls Try.prog 5 #[.int .i64 r] w fun e w' => e = .returned (.bool true) ∧ Below w.heap.size w w' := by
  have HP := hid HI
  clear HI
  go_enter Try.func5, Try.ntmps5
  go_wp2_with fail
  refine (specHalfStep_calls _ _).mono ?_
  rintro e w1 ⟨rfl, hb1⟩
  have HB1 := hid (bmore hb1 (.cells #[.int .i64 (soC r), .int .i64 (hsV r)] 27))
  go_wp2_with fail
  refine (HP.out _ HB1.out).mono ?_
  rintro e w2 ⟨rfl, hb2⟩
  obtain ⟨hc, hf⟩ := bcell hb2
  have hz : w1.heap.size < w2.heap.size := by have := hb2.size; simp at this; omega
  go_wp2_with fail
  refine (eqIntResult_calls _ _ _).mono ?_
  rintro e w3 ⟨rfl, hb3⟩
  clear hc hf
  go_wp2
  go_ret
  exact ⟨rfl, bthen (bmore (bthen HB1.out hb2) _) hb3⟩
theorem exactQuantize_calls (c r : Int) (w : World) (HI : ∀ W, Below w.heap.size w W → Calls Try.prog 11 #[.int .i64 c, .int .i64 r] W fun e w' => e = .returned (.agg #[.int .i64 (qzC c r), .int .i64 (qzV c r)]) ∧ Below W.heap.size W w') :
    Calls Try.prog 6 #[.int .i64 c, .int .i64 r] w fun e w' => e = .returned (.bool true) ∧ Below w.heap.size w w' := by
  have HP := hid HI
  clear HI
  go_enter Try.func6, Try.ntmps6
  go_wp2_with fail
  refine (specQuantize_calls _ _ _).mono ?_
  rintro e w1 ⟨rfl, hb1⟩
  have HB1 := hid (bmore hb1 (.cells #[.int .i64 (qzC c r), .int .i64 (qzV c r)] 27))
  go_wp2_with fail
  refine (HP.out _ HB1.out).mono ?_
  rintro e w2 ⟨rfl, hb2⟩
  obtain ⟨hc, hf⟩ := bcell hb2
  have hz : w1.heap.size < w2.heap.size := by have := hb2.size; simp at this; omega
  go_wp2_with fail
  refine (eqIntResult_calls _ _ _).mono ?_
  rintro e w3 ⟨rfl, hb3⟩
  clear hc hf
  go_wp2
  go_ret
  exact ⟨rfl, bthen (bmore (bthen HB1.out hb2) _) hb3⟩
theorem exactRestore_calls (q r : Int) (w : World) (HI : ∀ W, Below w.heap.size w W → Calls Try.prog 16 #[.int .i64 q, .int .i64 r] W fun e w' => e = .returned (.agg #[.int .i64 (rsC q r), .int .i64 (rsV q r)]) ∧ Below W.heap.size W w') :
    Calls Try.prog 7 #[.int .i64 q, .int .i64 r] w fun e w' => e = .returned (.bool true) ∧ Below w.heap.size w w' := by
  have HP := hid HI
  clear HI
  go_enter Try.func7, Try.ntmps7
  go_wp2_with fail
  refine (specRestore_calls _ _ _).mono ?_
  rintro e w1 ⟨rfl, hb1⟩
  have HB1 := hid (bmore hb1 (.cells #[.int .i64 (rsC q r), .int .i64 (rsV q r)] 27))
  go_wp2_with fail
  refine (HP.out _ HB1.out).mono ?_
  rintro e w2 ⟨rfl, hb2⟩
  obtain ⟨hc, hf⟩ := bcell hb2
  have hz : w1.heap.size < w2.heap.size := by have := hb2.size; simp at this; omega
  go_wp2_with fail
  refine (eqIntResult_calls _ _ _).mono ?_
  rintro e w3 ⟨rfl, hb3⟩
  clear hc hf
  go_wp2
  go_ret
  exact ⟨rfl, bthen (bmore (bthen HB1.out hb2) _) hb3⟩
theorem exactFinestRung_calls (a : Option Addr) (cap : Nat) (xs : List Int) (m : Int) (w : World) (hsl : Sl .i64 w (.slice a xs.length cap) xs) (HI : ∀ v W, Below w.heap.size w W → Sl .i64 W v xs → xs.length ≤ 1048576 → Calls Try.prog 23 #[v, .int .i64 m] W fun e w' => e = .returned (.agg #[.int .i64 (frgC xs m), .int .i64 (frgV xs m)]) ∧ Below W.heap.size W w') :
    Calls Try.prog 8 #[.slice a xs.length cap, .int .i64 m] w fun e w' => e = .returned (.bool true) ∧ Below w.heap.size w w' := by
  have HP := hid HI
  clear HI
  by_cases hbig : 1048576 < xs.length
  · have hb' : (1048576 : Int) < xs.length := by omega
    go_enter Try.func8, Try.ntmps8
    go_wp2
    go_ret
    exact ⟨rfl, Below.refl _ _⟩
  · have hb' : (xs.length : Int) ≤ 1048576 := by omega
    go_enter Try.func8, Try.ntmps8
    go_wp2_with fail
    refine (toInt64S_calls _ xs _ hsl (by omega)).mono ?_
    rintro e w1 ⟨g1, rfl, hs1, hb1⟩
    go_wp2_with fail
    refine (specFinestRung_calls _ xs m _ hs1).mono ?_
    rintro e w2 ⟨rfl, hb2⟩
    have hbb := bthen hb1 hb2
    go_wp2_with fail
    refine (toInt64S_calls _ xs _ (hsl.later (bmore hbb _)) (by omega)).mono ?_
    rintro e w3 ⟨g3, rfl, hs3, hb3⟩
    have HB3 := hid (bthen (bmore hbb _) hb3)
    go_wp2_with fail
    refine (HP.out _ _ HB3.out hs3 (by omega)).mono ?_
    rintro e w4 ⟨rfl, hb4⟩
    have hs4 := hs3.later hb4
    have hb34 := bthen hb3 hb4
    obtain ⟨hc, hf⟩ := bcell hb34
    have hz : w2.heap.size < w4.heap.size := by have := hb34.size; simp at this; omega
    go_wp2_with fail
    refine (eqIntResult_calls _ _ _).mono ?_
    rintro e w5 ⟨rfl, hb5⟩
    clear hc hf
    have hb45 := bthen (bmore (Below.refl _ w4) _) hb5
    have hall := bthen (bmore (bthen (bmore hbb _) hb34) _) hb5
    go_wp2_with fail
    refine (toInt64S_calls _ xs _ (hsl.later hall) (by omega)).mono ?_
    rintro e w6 ⟨g6, rfl, hs6, hb6⟩
    go_wp2_with fail
    refine (eqInt64S_calls _ _ xs _ (hs4.later (bthen hb45 hb6)) hs6 (by omega)).mono ?_
    rintro e w7 ⟨rfl, hb7⟩
    go_wp2
    go_ret
    exact ⟨rfl, bthen (bthen hall hb6) hb7⟩
end Go.Proofs.Ythmmjdippdnieaa.ExLa
