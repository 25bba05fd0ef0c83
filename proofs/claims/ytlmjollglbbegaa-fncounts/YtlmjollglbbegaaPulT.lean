/- The model's pulses: faults, their number, those of a number. Conditions: right pulses and numbers for what is called; lists of at most 1048576 numbers for what is exported. -/
import Derived.Test.YtlmjollglbbegaaPulS
namespace Go.Proofs.Ytlmjollglbbegaa.PulT
open Go.ChangeShapes Go.WideShapes Go.ChangeAt Go.RowKit Go.Proofs.Ytlmjollglbbegaa.Num Go.Proofs.Ytlmjollglbbegaa.Div Go.Proofs.Ytlmjollglbbegaa.Sli Go.Proofs.Ytlmjollglbbegaa.App Go.Proofs.Ytlmjollglbbegaa.Blk Go.Proofs.Ytlmjollglbbegaa.IntL Go.Proofs.Ytlmjollglbbegaa.IntA Go.Proofs.Ytlmjollglbbegaa.Norm Go.Proofs.Ytlmjollglbbegaa.HalM Go.Proofs.Ytlmjollglbbegaa.PulM Go.Proofs.Ytlmjollglbbegaa.PulS

theorem l11Ask_calls (d k : Int) (w : World) : Calls Try.prog 12 #[.int .i64 d, .int .i64 k] w fun e w' => e = .returned (.bool (cpO d k)) ∧ w' = w := by
  have HI := hid (l1In_calls d 1 4)
  have HS := hid (l1In_calls k 0 8)
  have H : Hid ((inB 1 4 d && inB 0 8 k) = cpO d k) := rfl
  cases h : inB 1 4 d
  · rw [h] at HI H
    clear h HS
    go_enter Try.func12, Try.ntmps12
    go_wp2_with fail
    refine (HI.out _).mono ?_
    rintro e w' ⟨rfl, rfl⟩
    go_wp2
    go_ret
    exact ⟨by rw [← H.out]; rfl, rfl⟩
  · rw [h] at HI H
    clear h
    go_enter Try.func12, Try.ntmps12
    go_wp2_with fail
    refine (HI.out _).mono ?_
    rintro e w' ⟨rfl, rfl⟩
    go_wp2_with fail
    refine (HS.out _).mono ?_
    rintro e w' ⟨rfl, rfl⟩
    go_wp2
    go_ret
    exact ⟨by rw [← H.out]; rfl, rfl⟩
/-- How many there are, for numbers that are told otherwise. -/
theorem count_as (D K : Nat) (hD : D ≤ 4) (hK : K ≤ 8) (W : World) (d k : Int) (h1 : d = (D : Int)) (h2 : k = (K : Int)) :
    Calls Try.prog 13 #[.int .i64 d, .int .i64 k] W fun e w' => e = .returned (.int .i64 (cnt D K : Int)) ∧ Below W.heap.size W w' := by
  subst h1 h2
  exact l11Count_calls D K W hD hK
theorem specCountPulses_calls (d k : Int) (w : World) : Calls Try.prog 7 #[.int .i64 d, .int .i64 k] w fun e w' => e = .returned (.agg #[.int .i64 (cpC d k), .int .i64 (cpV d k)]) ∧ Below w.heap.size w w' := by
  have HK := hid (l11Ask_calls d k)
  cases hk : cpO d k
  · have H : Hid (3 = cpC d k ∧ 0 = cpV d k) := ⟨(if_neg (by rw [hk]; decide)).symm, (if_neg (by rw [hk]; decide)).symm⟩
    rw [hk] at HK
    clear hk
    go_enter Try.func7, Try.ntmps7
    go_wp2_with (go_at_call 12; refine (HK.out _).mono ?_; rintro e w' ⟨rfl, rfl⟩)
    exact bodyPost_ret (v := .agg #[.int .i64 3, .int .i64 0]) (by simp [results, Try.results7, go_sem]) rfl ⟨ret_two H.out.1 H.out.2, bmore (Below.refl _ _) _⟩
  · have hk2 := hk
    unfold cpO at hk2
    simp at hk2
    have a := of_inB hk2.1
    have b := of_inB hk2.2
    have H : Hid (0 = cpC d k ∧ ctV d k = cpV d k) := ⟨(if_pos hk).symm, (if_pos hk).symm⟩
    have HC := hid (fun W => count_as d.toNat k.toNat (by omega) (by omega) W d k (by omega) (by omega))
    have HV : Hid ((cnt d.toNat k.toNat : Int) = ctV d k) := rfl
    rw [HV.out] at HC
    rw [hk] at HK
    clear hk hk2 a b HV
    generalize ctV d k = c at *
    go_enter Try.func7, Try.ntmps7
    go_wp2_with (first | (go_at_call 12; refine (HK.out _).mono ?_; rintro e w' ⟨rfl, rfl⟩) | fail)
    refine (HC.out _).mono ?_
    rintro e w1 ⟨rfl, hB⟩
    obtain ⟨c0, c1, f0, f1⟩ := ((Blk.new w #[.int .i64 0, .int .i64 0] 27).later hB).two
    have HB := hid (below_set2 (bthen (bmore (Below.refl w.heap.size w) _) hB) (.int .i64 0) (.int .i64 c))
    clear hB HC
    go_wp2
    exact bodyPost_ret (v := .agg #[.int .i64 0, .int .i64 c]) (by simp [results, Try.results7, go_sem, c0, c1]) rfl ⟨ret_two H.out.1 H.out.2, HB.out⟩
end Go.Proofs.Ytlmjollglbbegaa.PulT
