/- Pairs: an answer is made of a pair; both numbers of a pair are held against MaxWide, by the program and by the model. No conditions. -/
import Derived.Test.YtgcmphlekdmdgaaDoorTurM
import Derived.Test.YtgcmphlekdmdgaaDoorBlk
namespace Go.Proofs.YtgcmphlekdmdgaaDoor.Par
open Go.ChangeShapes Go.WideShapes Go.ChangeAt Go.RowKit Go.Proofs.YtgcmphlekdmdgaaDoor.Num Go.Proofs.YtgcmphlekdmdgaaDoor.Sli Go.Proofs.YtgcmphlekdmdgaaDoor.Div Go.Proofs.YtgcmphlekdmdgaaDoor.Samp Go.Proofs.YtgcmphlekdmdgaaDoor.Blk Go.Proofs.YtgcmphlekdmdgaaDoor.TurM

theorem ret_three {c a b c' a' b' : Int} (h1 : c = c') (h2 : a = a') (h3 : b = b') : Ending.returned (.agg #[.int .i64 c, .int .i64 a, .int .i64 b]) = .returned (.agg #[.int .i64 c', .int .i64 a', .int .i64 b']) := by rw [h1, h2, h3]
theorem result_calls (a b : Int) (w : World) :
    Calls Tryd.prog 25 #[.agg #[.int .i64 a, .int .i64 b]] w fun e w' => e = .returned (.agg #[.int .i64 0, .int .i64 a, .int .i64 b]) ∧ Below w.heap.size w w' := by
  go_enter Tryd.func25, Tryd.ntmps25
  go_wp2
  exact bodyPost_ret (v := .agg #[.int .i64 0, .int .i64 a, .int .i64 b]) (by simp [results, Tryd.results25, go_sem]) rfl ⟨rfl, bmore (bmore (Below.refl _ _) _) _⟩
theorem isWide_calls (a b : Int) (w : World) :
    Calls Tryd.prog 35 #[.agg #[.int .i64 a, .int .i64 b]] w fun e w' => e = .returned (.bool (wd a && wd b)) ∧ Below w.heap.size w w' := by
  have HW := hid isWithin_calls
  unfold wd
  cases h1 : inB (-137438953472) 137438953472 a
  · go_enter Tryd.func35, Tryd.ntmps35
    go_wp2_with (go_at_call 40; refine (HW.out _ _ _ _).mono ?_; rintro e w' ⟨rfl, rfl⟩)
    go_ret
    exact ⟨rfl, bmore (Below.refl _ _) _⟩
  · go_enter Tryd.func35, Tryd.ntmps35
    go_wp2_with (go_at_call 40; refine (HW.out _ _ _ _).mono ?_; rintro e w' ⟨rfl, rfl⟩)
    go_ret
    exact ⟨rfl, bmore (Below.refl _ _) _⟩
theorem l5Wide_calls (a b : Int) (w : World) :
    Calls Tryd.prog 37 #[.int .i64 a, .int .i64 b] w fun e w' => e = .returned (.bool (wd a && wd b)) ∧ w' = w := by
  have HW := hid l1In_calls
  unfold wd
  cases h1 : inB (-137438953472) 137438953472 a
  · go_enter Tryd.func37, Tryd.ntmps37
    go_wp2_with (go_at_call 27; refine (HW.out _ _ _ _).mono ?_; rintro e w' ⟨rfl, rfl⟩)
    go_ret
    exact ⟨rfl, rfl⟩
  · go_enter Tryd.func37, Tryd.ntmps37
    go_wp2_with (go_at_call 27; refine (HW.out _ _ _ _).mono ?_; rintro e w' ⟨rfl, rfl⟩)
    go_ret
    exact ⟨rfl, rfl⟩
theorem eqPair_calls (c a b : Int) (w : World) :
    Calls Tryd.prog 15 #[.agg #[.int .i64 c, .int .i64 a, .int .i64 b], .agg #[.int .i64 c, .int .i64 a, .int .i64 b]] w fun e w' => e = .returned (.bool true) ∧ Below w.heap.size w w' := by
  go_enter Tryd.func15, Tryd.ntmps15
  go_wp2
  go_ret
  exact ⟨rfl, ((Below.refl _ _).alloc (Nat.le_refl _) _).alloc (by simp) _⟩
end Go.Proofs.YtgcmphlekdmdgaaDoor.Par
