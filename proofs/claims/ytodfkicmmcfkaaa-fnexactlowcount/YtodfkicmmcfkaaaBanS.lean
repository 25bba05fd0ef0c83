/- The model's LowCount, PulsesFor, GainRung, OwnerOf. No conditions. -/
import Derived.Test.YtodfkicmmcfkaaaBanM
import Derived.Test.YtodfkicmmcfkaaaLadS
import Derived.Test.YtodfkicmmcfkaaaDraws
namespace Go.Proofs.Ytodfkicmmcfkaaa.BanS
open Go.ChangeShapes Go.WideShapes Go.ChangeAt Go.RowKit Go.Proofs.Ytodfkicmmcfkaaa.Num Go.Proofs.Ytodfkicmmcfkaaa.Div Go.Proofs.Ytodfkicmmcfkaaa.Samp Go.Proofs.Ytodfkicmmcfkaaa.Sli Go.Proofs.Ytodfkicmmcfkaaa.Blk Go.Proofs.Ytodfkicmmcfkaaa.LadM Go.Proofs.Ytodfkicmmcfkaaa.LadS Go.Proofs.Ytodfkicmmcfkaaa.BanM

theorem specLowCount_calls (s : Int) (w : World) : Calls Try.prog 18 #[.int .i64 s] w fun e w' => e = .returned (.agg #[.int .i64 (lcC s), .int .i64 (lcV s)]) ∧ Below w.heap.size w w' := by
  have HS := hid (specSizeFault_calls s)
  by_cases h : szF s = 0
  · have H : Hid (0 = lcC s ∧ s / 2 = lcV s) := ⟨h.symm, (if_pos h).symm⟩
    have h3 : s = 4 ∨ s = 8 ∨ s = 16 := by
      unfold szF at h
      by_cases q : s = 4 ∨ s = 8 ∨ s = 16
      · exact q
      · rw [if_neg q] at h; omega
    have kw : wrap64 (s / 2) = s / 2 := wrap_of (by omega) (by omega)
    have hd : Int.tdiv s 2 = s / 2 := by rcases h3 with rfl | rfl | rfl <;> rfl
    rw [h] at HS
    clear h h3
    go_enter Try.func18, Try.ntmps18
    go_wp2_with fail
    refine (HS.out _).mono ?_
    rintro e w' ⟨rfl, rfl⟩
    go_wp2
    exact bodyPost_ret (v := .agg #[.int .i64 0, .int .i64 (s / 2)]) (by simp [results, Try.results18, go_sem, kw]) rfl ⟨ret_two H.out.1 H.out.2, bmore (Below.refl _ _) _⟩
  · have H : Hid (szF s = lcC s ∧ 0 = lcV s) := ⟨rfl, (if_neg h).symm⟩
    have bq : (szF s == 0) = false := by simpa using h
    generalize szF s = c at *
    clear h
    go_enter Try.func18, Try.ntmps18
    go_wp2_with fail
    refine (HS.out _).mono ?_
    rintro e w' ⟨rfl, rfl⟩
    go_wp2
    exact bodyPost_ret (v := .agg #[.int .i64 c, .int .i64 0]) (by simp [results, Try.results18, go_sem]) rfl ⟨ret_two H.out.1 H.out.2, bmore (Below.refl _ _) _⟩
end Go.Proofs.Ytodfkicmmcfkaaa.BanS
