/- The model's pulses: faults, their number, those of a number. Conditions: right pulses and numbers for what is called; lists of at most 1048576 numbers for what is exported. -/
import Derived.Test.YtbbejjlgfekipaaPulS
namespace Go.Proofs.Ytbbejjlgfekipaa.PulT
open Go.ChangeShapes Go.WideShapes Go.ChangeAt Go.RowKit Go.Proofs.Ytbbejjlgfekipaa.Num Go.Proofs.Ytbbejjlgfekipaa.Div Go.Proofs.Ytbbejjlgfekipaa.Sli Go.Proofs.Ytbbejjlgfekipaa.App Go.Proofs.Ytbbejjlgfekipaa.Blk Go.Proofs.Ytbbejjlgfekipaa.IntL Go.Proofs.Ytbbejjlgfekipaa.IntA Go.Proofs.Ytbbejjlgfekipaa.Norm Go.Proofs.Ytbbejjlgfekipaa.HalM Go.Proofs.Ytbbejjlgfekipaa.PulM Go.Proofs.Ytbbejjlgfekipaa.PulS

theorem topB_of {l : List Int} {k : Int} (h : l.all (inB (-k) k) = true) (hk : k ≤ 8) : l.all topB = true := by
  rw [List.all_eq_true] at h ⊢
  intro x hx
  have := of_inB (h x hx)
  exact inB_yes (by omega) (by omega)
set_option maxHeartbeats 1000000 in
theorem specPulsesFault_calls (v : Value) (xs : List Int) (k : Int) (w : World) (h : Sl .i64 w v xs) (hm : xs.length ≤ 1048576) :
    Calls Try.prog 41 #[v, .int .i64 k] w fun e w' => e = .returned (.int .i64 (pfC xs k)) ∧ w' = w := by
  have HA := hid (fun lo hi => all_calls v xs lo hi w h hm)
  have HI := hid (l1In_calls k 0 8)
  have Hs := hid h
  obtain ⟨a, cap, rfl, hc⟩ := h
  by_cases h1 : 1 ≤ xs.length
  · by_cases h4 : xs.length ≤ 4
    · have i1 : (1 : Int) ≤ xs.length := by omega
      have i4 : (xs.length : Int) ≤ 4 := by omega
      have hne : xs ≠ [] := by intro e; rw [e] at h1; simp at h1
      obtain ⟨b, off, rfl, hbl, hcell⟩ := hc hne
      have e1 : pfC xs k = if pkB k = true then (if rgt xs k = true then 0 else 1) else 3 := if_pos ⟨h1, h4⟩
      cases hk : pkB k
      · have H : Hid (3 = pfC xs k) := by show _ = _; rw [e1, hk]; rfl
        rw [show inB 0 8 k = false from hk] at HI
        clear hcell hc e1 hk HA Hs
        go_enter Try.func41, Try.ntmps41
        go_wp2_with (go_at_call 34; refine (HI.out _).mono ?_; rintro e w' ⟨rfl, rfl⟩)
        go_ret
        exact ⟨by rw [← H.out]; rfl, rfl⟩
      · have hkb := of_inB hk
        rw [show inB 0 8 k = true from hk] at HI
        have HAk := hid (HA.out (-k) k)
        cases ha : xs.all (inB (-k) k)
        · have H : Hid (1 = pfC xs k) := by show _ = _; rw [e1, hk, if_pos rfl, if_neg]; unfold rgt; rw [ha]; simp
          rw [ha] at HAk
          clear hcell hc e1 hk HA Hs ha
          go_enter Try.func41, Try.ntmps41
          go_wp2_with (first | (go_at_call 34; refine (HI.out _).mono ?_; rintro e w' ⟨rfl, rfl⟩) | (go_at_call 35; refine HAk.out.mono ?_; rintro e w' ⟨rfl, rfl⟩))
          go_ret
          exact ⟨by rw [← H.out]; rfl, rfl⟩
        · have HN := hid (l1Norm_some b off cap xs w (by omega) (topB_of ha (by omega)) hcell)
          rw [ha] at HAk
          by_cases hs : sumAbs xs = k
          · have H : Hid (0 = pfC xs k) := by show _ = _; rw [e1, hk, if_pos rfl, if_pos]; unfold rgt; rw [ha, hs]; simp
            have hb : (sumAbs xs != k) = false := by simpa using hs
            clear hcell hc e1 hk HA Hs ha hs
            generalize sumAbs xs = sa at *
            go_enter Try.func41, Try.ntmps41
            go_wp2_with (first | (go_at_call 34; refine (HI.out _).mono ?_; rintro e w' ⟨rfl, rfl⟩) | (go_at_call 35; refine HAk.out.mono ?_; rintro e w' ⟨rfl, rfl⟩) | (go_at_call 50; refine HN.out.mono ?_; rintro e w' ⟨rfl, rfl⟩))
            go_ret
            exact ⟨by rw [← H.out]; rfl, rfl⟩
          · have H : Hid (1 = pfC xs k) := by show _ = _; rw [e1, hk, if_pos rfl, if_neg]; unfold rgt; rw [decide_eq_false hs, Bool.and_false]; simp
            have hb : (sumAbs xs != k) = true := by simpa using hs
            clear hcell hc e1 hk HA Hs ha hs
            generalize sumAbs xs = sa at *
            go_enter Try.func41, Try.ntmps41
            go_wp2_with (first | (go_at_call 34; refine (HI.out _).mono ?_; rintro e w' ⟨rfl, rfl⟩) | (go_at_call 35; refine HAk.out.mono ?_; rintro e w' ⟨rfl, rfl⟩) | (go_at_call 50; refine HN.out.mono ?_; rintro e w' ⟨rfl, rfl⟩))
            go_ret
            exact ⟨by rw [← H.out]; rfl, rfl⟩
    · have i4 : (4 : Int) < xs.length := by omega
      have H : Hid (2 = pfC xs k) := (if_neg (by omega)).symm
      clear hc HA HI Hs
      go_enter Try.func41, Try.ntmps41
      go_wp2
      go_ret
      exact ⟨by rw [← H.out]; rfl, rfl⟩
  · have i1 : (xs.length : Int) = 0 := by omega
    have H : Hid (2 = pfC xs k) := (if_neg (by omega)).symm
    have hl : xs.length = 0 := by omega
    rw [hl]
    clear hc HA HI Hs
    go_enter Try.func41, Try.ntmps41
    go_wp2
    go_ret
    exact ⟨by rw [← H.out]; rfl, rfl⟩
end Go.Proofs.Ytbbejjlgfekipaa.PulT
