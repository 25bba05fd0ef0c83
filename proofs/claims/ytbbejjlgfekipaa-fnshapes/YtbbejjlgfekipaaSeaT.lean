/- The model's SearchPulses. Condition: lists of at most 1048576 numbers. -/
import Derived.Test.YtbbejjlgfekipaaSeaS
namespace Go.Proofs.Ytbbejjlgfekipaa.SeaT
open Go.ChangeShapes Go.WideShapes Go.ChangeAt Go.RowKit Go.Proofs.Ytbbejjlgfekipaa.Num Go.Proofs.Ytbbejjlgfekipaa.Div Go.Proofs.Ytbbejjlgfekipaa.Sli Go.Proofs.Ytbbejjlgfekipaa.App Go.Proofs.Ytbbejjlgfekipaa.Blk Go.Proofs.Ytbbejjlgfekipaa.IntL Go.Proofs.Ytbbejjlgfekipaa.IntA Go.Proofs.Ytbbejjlgfekipaa.Norm Go.Proofs.Ytbbejjlgfekipaa.HalM Go.Proofs.Ytbbejjlgfekipaa.PulM Go.Proofs.Ytbbejjlgfekipaa.ShaM Go.Proofs.Ytbbejjlgfekipaa.SeaM Go.Proofs.Ytbbejjlgfekipaa.SeaS

theorem sr_len (l : List Int) (k : Int) : (srL l k).length ≤ 4 := by
  by_cases h : srC l k = 0
  · have := (sr_sum h).2
    have := (sr_yes h).2.1
    omega
  · unfold srL; rw [if_neg h]; simp
set_option maxHeartbeats 1000000 in
theorem specSearchPulses_calls (v : Value) (xs : List Int) (k : Int) (w : World) (h : Sl .i64 w v xs) (hm : xs.length ≤ 1048576) :
    Calls Try.prog 10 #[v, .int .i64 k] w fun e w' => ∃ u, e = .returned (.agg #[.int .i64 (srC xs k), u]) ∧ OwI w.heap.size w' u (srL xs k) ∧ Below w.heap.size w w' := by
  have HA0 := hid (fun W (hW : Sl .i64 W v xs) => all_calls v xs (-16777216) 16777216 W hW hm)
  have HI := hid (l1In_calls k 1 8)
  have HSl := hid (fun o => h.later ((Below.refl w.heap.size w).alloc (Nat.le_refl _) o))
  have HS0 := hid (fun W (hW : Sl .i64 W v xs) => l12Search_calls v xs k W hW)
  obtain ⟨a, cap, rfl, _⟩ := h
  have HA := hid (HA0.out _ (HSl.out (.cells #[.int .i64 0, .slice none 0 0] 28)))
  have HS := hid (HS0.out _ (HSl.out (.cells #[.int .i64 0, .slice none 0 0] 28)))
  clear HA0 HS0
  by_cases h14 : 1 ≤ xs.length ∧ xs.length ≤ 4
  · have i1 : (1 : Int) ≤ xs.length := by omega
    have i4 : (xs.length : Int) ≤ 4 := by omega
    have hsc : srC xs k = if srO xs k = true then 0 else 3 := if_pos h14
    cases hk : pk1 k
    · have hc : srC xs k = 3 := by rw [hsc]; unfold srO; rw [hk]; rfl
      have H : Hid (3 = srC xs k ∧ [] = srL xs k) := ⟨hc.symm, by unfold srL; rw [if_neg (by rw [hc]; decide)]⟩
      rw [show inB 1 8 k = false from hk] at HI
      clear hsc hc hk HA HS
      generalize srC xs k = sc at *
      generalize srL xs k = sl at *
      go_enter Try.func10, Try.ntmps10
      go_wp2_with fail
      refine (HI.out _).mono ?_
      rintro e w' ⟨rfl, rfl⟩
      go_wp2
      exact bodyPost_ret (v := .agg #[.int .i64 3, .slice none 0 0]) (by simp [results, Try.results10, go_sem]) rfl ⟨_, by rw [← H.out.1], by rw [← H.out.2]; exact World.ownsRow_nil _ _ _ _, bmore (Below.refl _ _) _⟩
    · have hkb := of_inB hk
      rw [show inB 1 8 k = true from hk] at HI
      cases ha : xs.all coB
      · have hc : srC xs k = 3 := by rw [hsc]; unfold srO; rw [hk, ha]; rfl
        have H : Hid (3 = srC xs k ∧ [] = srL xs k) := ⟨hc.symm, by unfold srL; rw [if_neg (by rw [hc]; decide)]⟩
        rw [show xs.all (inB (-16777216) 16777216) = false from ha] at HA
        clear hsc hc hk ha HS
        generalize srC xs k = sc at *
        generalize srL xs k = sl at *
        go_enter Try.func10, Try.ntmps10
        go_wp2_with fail
        refine (HI.out _).mono ?_
        rintro e w' ⟨rfl, rfl⟩
        go_wp2_with fail
        refine HA.out.mono ?_
        rintro e w' ⟨rfl, rfl⟩
        go_wp2
        exact bodyPost_ret (v := .agg #[.int .i64 3, .slice none 0 0]) (by simp [results, Try.results10, go_sem]) rfl ⟨_, by rw [← H.out.1], by rw [← H.out.2]; exact World.ownsRow_nil _ _ _ _, bmore (Below.refl _ _) _⟩
      · have hc : srC xs k = 0 := by rw [hsc]; unfold srO; rw [hk, ha]; rfl
        have H : Hid (0 = srC xs k ∧ mkL xs.length (srE xs k) = srL xs k) := ⟨hc.symm, by unfold srL; rw [if_pos hc]⟩
        have HSx := hid (HS.out h14.1 h14.2 hkb.1 hkb.2 ha)
        rw [show xs.all (inB (-16777216) 16777216) = true from ha] at HA
        clear hsc hc hk ha HS
        generalize srC xs k = sc at *
        generalize srL xs k = sl at *
        generalize mkL xs.length (srE xs k) = l at *
        go_enter Try.func10, Try.ntmps10
        go_wp2_with fail
        refine (HI.out _).mono ?_
        rintro e w' ⟨rfl, rfl⟩
        go_wp2_with fail
        refine HA.out.mono ?_
        rintro e w' ⟨rfl, hw⟩
        have hw' := hw.symm
        subst hw'
        clear hw
        go_wp2_with fail
        refine HSx.out.mono ?_
        rintro e w2 ⟨u, rfl, hO, hB⟩
        obtain ⟨au, cu, hu, _⟩ := hO.sl
        subst hu
        obtain ⟨c0, c1, f0, f1⟩ := ((Blk.new w #[.int .i64 0, .slice none 0 0] 28).later hB).two
        have HB2 := hid (below_set2 (bthen (bmore (Below.refl w.heap.size w) _) hB) (.int .i64 0) (.slice au l.length cu))
        have hO2 : OwI (w.heap.size + 1) w2 (.slice au l.length cu) l := by simpa using hO
        have HO := hid (hO2.set2 (.int .i64 0) (.slice au l.length cu))
        clear hB HSx hO hO2
        go_wp2
        exact bodyPost_ret (v := .agg #[.int .i64 0, .slice au l.length cu]) (by simp [results, Try.results10, go_sem, c0, c1]) rfl ⟨_, by rw [← H.out.1], by rw [← H.out.2]; exact HO.out, HB2.out⟩
  · have hc : srC xs k = 2 := if_neg h14
    have H : Hid (2 = srC xs k ∧ [] = srL xs k) := ⟨hc.symm, by unfold srL; rw [if_neg (by rw [hc]; decide)]⟩
    clear hc HA HS HI
    generalize srC xs k = sc at *
    generalize srL xs k = sl at *
    by_cases h1 : 1 ≤ xs.length
    · have i4 : (4 : Int) < xs.length := by omega
      clear h14
      go_enter Try.func10, Try.ntmps10
      go_wp2
      exact bodyPost_ret (v := .agg #[.int .i64 2, .slice none 0 0]) (by simp [results, Try.results10, go_sem]) rfl ⟨_, by rw [← H.out.1], by rw [← H.out.2]; exact World.ownsRow_nil _ _ _ _, bmore (Below.refl _ _) _⟩
    · have hl : xs.length = 0 := by omega
      rw [hl]
      clear h14
      go_enter Try.func10, Try.ntmps10
      go_wp2
      exact bodyPost_ret (v := .agg #[.int .i64 2, .slice none 0 0]) (by simp [results, Try.results10, go_sem]) rfl ⟨_, by rw [← H.out.1], by rw [← H.out.2]; exact World.ownsRow_nil _ _ _ _, bmore (Below.refl _ _) _⟩
end Go.Proofs.Ytbbejjlgfekipaa.SeaT
