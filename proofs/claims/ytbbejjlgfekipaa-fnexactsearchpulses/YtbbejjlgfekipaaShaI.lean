/- The program's search for pulses. Condition: lists of at most 1048576 numbers. -/
import Derived.Test.YtbbejjlgfekipaaShaK
import Derived.Test.YtbbejjlgfekipaaShaP
namespace Go.Proofs.Ytbbejjlgfekipaa.ShaI
open Go.ChangeShapes Go.WideShapes Go.ChangeAt Go.RowKit Go.Proofs.Ytbbejjlgfekipaa.Num Go.Proofs.Ytbbejjlgfekipaa.Sli Go.Proofs.Ytbbejjlgfekipaa.App Go.Proofs.Ytbbejjlgfekipaa.Blk Go.Proofs.Ytbbejjlgfekipaa.Div Go.Proofs.Ytbbejjlgfekipaa.Norm Go.Proofs.Ytbbejjlgfekipaa.HalM Go.Proofs.Ytbbejjlgfekipaa.PulM Go.Proofs.Ytbbejjlgfekipaa.ShaM Go.Proofs.Ytbbejjlgfekipaa.SeaM Go.Proofs.Ytbbejjlgfekipaa.SeaS Go.Proofs.Ytbbejjlgfekipaa.ShaF Go.Proofs.Ytbbejjlgfekipaa.ShaP Go.Proofs.Ytbbejjlgfekipaa.ShaK Go.Proofs.Ytbbejjlgfekipaa.IntL Go.Proofs.Ytbbejjlgfekipaa.IntA Go.Proofs.Ytbbejjlgfekipaa.BkI

def o5 (l : List Int) (k : Int) (i j : Nat) : Int := if j < i then srE l k j else ppF l k j
theorem sr_sg {l : List Int} {k : Int} {i : Nat} (hi : i < l.length) : srE l k i = sgV (l.getD i 0) (ppF l k i) := by
  unfold srE ppF
  by_cases hz : nrm l = 0
  · rw [if_pos hz, if_pos hz]
    have h1 := smF_ge (f := fun j => absV (l.getD j 0)) (fun j => (absV_bd _).1) hi
    rw [nrm_sum, hz] at h1
    have h3 := absV_bd (l.getD i 0)
    have h2 : absV (l.getD i 0) ≤ 0 := h1
    have hl : l.getD i 0 = 0 := by omega
    rw [hl]
    unfold sgV
    exact (if_neg (by omega)).symm
  · rw [if_neg hz, if_neg hz]
theorem pp_bd {l : List Int} {k : Int} (hk : 1 ≤ k ∧ k ≤ 8) {i : Nat} (hi : i < l.length) : 0 ≤ ppF l k i ∧ ppF l k i ≤ 8 := by
  unfold ppF
  by_cases hz : nrm l = 0
  · rw [if_pos hz]; split <;> omega
  · rw [if_neg hz]
    have hp : 0 < nrm l := by have := nrm_pos l; omega
    have := up_bd l k (by omega) hp (by omega) i hi
    omega
theorem o5_set {l : List Int} {k : Int} {i : Nat} (hi : i < l.length) (hx : l.getD i 0 < 0) : (mkL l.length (o5 l k i)).set i (-(ppF l k i)) = mkL l.length (o5 l k (i + 1)) :=
  set_mk hi (by unfold o5; rw [if_pos (by omega), sr_sg hi]; unfold sgV; rw [if_pos hx]) (fun j _ hj => by
    unfold o5
    by_cases q : j < i
    · rw [if_pos q, if_pos (by omega)]
    · rw [if_neg q, if_neg (by omega)])
theorem o5_keep {l : List Int} {k : Int} {i : Nat} (hx : ¬ l.getD i 0 < 0) : mkL l.length (o5 l k i) = mkL l.length (o5 l k (i + 1)) := mkL_congr (fun j hj => by
  unfold o5
  by_cases q : j < i
  · rw [if_pos q, if_pos (by omega)]
  · by_cases q2 : j = i
    · subst q2
      rw [if_neg q, if_pos (by omega), sr_sg hj]
      unfold sgV
      rw [if_neg hx]
    · rw [if_neg q, if_neg (by omega)])
set_option maxHeartbeats 4000000 in
theorem implSearchPulses_calls (v : Value) (xs : List Int) (k : Int) (w : World) (h : Sl .i64 w v xs) (_hf : Fits v) (hm : xs.length ≤ 1048576) :
    Calls Try.prog 9 #[v, .int .i64 k] w fun e w' => ∃ u, e = .returned (.agg #[.int .i64 (srC xs k), u]) ∧ OwI w.heap.size w' u (srL xs k) ∧ Below w.heap.size w w' := by
  have HW1 := hid (isWithin_calls (xs.length : Int) 1 4)
  have HT := hid (tellsShape_calls k)
  have hB1 := bmore (Below.refl _ w) (.cells #[.int .i64 0, .slice none 0 0] 28)
  have HS0 := hid (h.later hB1)
  have HB0 := hid hB1
  have HR0 := hid (Blk.new w #[.int .i64 0, .slice none 0 0] 28)
  have HSw := hid h
  have HAr := hid (fun W (hW : Sl .i64 W v xs) => areIn_calls v xs (-16777216) 16777216 W hW hm)
  obtain ⟨a, cap, hv, _⟩ := h
  subst hv
  clear hB1
  cases h1 : inB 1 4 (xs.length : Int)
  · have hc : srC xs k = 2 := by
      unfold srC
      rw [if_neg]
      intro hh
      have : inB 1 4 (xs.length : Int) = true := inB_yes (by omega) (by omega)
      rw [h1] at this; cases this
    have H : Hid (2 = srC xs k ∧ [] = srL xs k) := ⟨hc.symm, by unfold srL; rw [if_neg (by rw [hc]; decide)]⟩
    rw [h1] at HW1
    clear h1 hc HT HAr HS0
    generalize srC xs k = sc at *
    generalize srL xs k = sl at *
    go_enter Try.func9, Try.ntmps9
    go_wp2_with fail
    refine (HW1.out _).mono ?_
    rintro e w1 ⟨rfl, rfl⟩
    go_wp2
    exact bodyPost_ret (v := .agg #[.int .i64 2, .slice none 0 0]) (by simp [results, Try.results9, go_sem]) rfl ⟨_, by rw [← H.out.1], by rw [← H.out.2]; exact nil_own _ _, bmore (Below.refl _ _) _⟩
  · have hl := of_inB h1
    have hcs : srC xs k = if srO xs k = true then 0 else 3 := if_pos (by omega)
    rw [h1] at HW1
    cases h2 : pk1 k
    · have hc : srC xs k = 3 := by rw [hcs, if_neg]; unfold srO; rw [h2]; simp
      have H : Hid (3 = srC xs k ∧ [] = srL xs k) := ⟨hc.symm, by unfold srL; rw [if_neg (by rw [hc]; decide)]⟩
      rw [h2] at HT
      clear h1 h2 hc hcs HAr HS0 hl
      generalize srC xs k = sc at *
      generalize srL xs k = sl at *
      go_enter Try.func9, Try.ntmps9
      go_wp2_with fail
      refine (HW1.out _).mono ?_
      rintro e w1 ⟨rfl, rfl⟩
      go_wp2_with fail
      refine (HT.out _).mono ?_
      rintro e w1 ⟨rfl, rfl⟩
      go_wp2
      exact bodyPost_ret (v := .agg #[.int .i64 3, .slice none 0 0]) (by simp [results, Try.results9, go_sem]) rfl ⟨_, by rw [← H.out.1], by rw [← H.out.2]; exact nil_own _ _, bmore (Below.refl _ _) _⟩
    · rw [h2] at HT
      cases h3 : xs.all (inB (-16777216) 16777216)
      · have hc : srC xs k = 3 := by rw [hcs, if_neg]; unfold srO; rw [h2, show xs.all coB = false from h3]; simp
        have H : Hid (3 = srC xs k ∧ [] = srL xs k) := ⟨hc.symm, by unfold srL; rw [if_neg (by rw [hc]; decide)]⟩
        rw [h3] at HAr
        clear h1 h2 h3 hc hcs hl
        generalize srC xs k = sc at *
        generalize srL xs k = sl at *
        go_enter Try.func9, Try.ntmps9
        go_wp2_with fail
        refine (HW1.out _).mono ?_
        rintro e w1 ⟨rfl, rfl⟩
        go_wp2_with fail
        refine (HT.out _).mono ?_
        rintro e w1 ⟨rfl, rfl⟩
        go_wp2_with fail
        refine (HAr.out _ HS0.out).mono ?_
        rintro e w1 ⟨rfl, rfl⟩
        go_wp2
        exact bodyPost_ret (v := .agg #[.int .i64 3, .slice none 0 0]) (by simp [results, Try.results9, go_sem]) rfl ⟨_, by rw [← H.out.1], by rw [← H.out.2]; exact nil_own _ _, bmore (Below.refl _ _) _⟩
      · have hk := of_inB h2
        have hc : srC xs k = 0 := by rw [hcs, if_pos]; unfold srO; rw [h2, show xs.all coB = true from h3]; rfl
        have H : Hid (0 = srC xs k ∧ mkL xs.length (srE xs k) = srL xs k) := ⟨hc.symm, by unfold srL; rw [if_pos hc]⟩
        have HPP := hid (fun W (hW : Sl .i64 W (.slice a xs.length cap) xs) => perPlace_calls (.slice a xs.length cap) xs k W hW (by omega) (by omega) hk.1 hk.2 h3)
        have hne : xs ≠ [] := by intro e; rw [e] at hl; simp at hl
        have HE0 : Hid (mkL xs.length (ppF xs k) = mkL xs.length (o5 xs k 0)) := mkL_congr (fun j _ => by unfold o5; rw [if_neg (by omega)])
        have HEn : Hid (mkL xs.length (o5 xs k xs.length) = srL xs k) := (mkL_congr (fun j hj => by unfold o5; rw [if_pos hj])).trans H.out.2
        have HSt : Hid (∀ i, i < xs.length → xs.getD i 0 < 0 → (mkL xs.length (o5 xs k i)).set i (-(ppF xs k i)) = mkL xs.length (o5 xs k (i + 1))) := fun i hi hx => o5_set hi hx
        have HKp : Hid (∀ i, ¬ xs.getD i 0 < 0 → mkL xs.length (o5 xs k i) = mkL xs.length (o5 xs k (i + 1))) := fun i hx => o5_keep hx
        have HPb : Hid (∀ i, i < xs.length → 0 ≤ ppF xs k i ∧ ppF xs k i ≤ 8) := fun i hi => pp_bd hk hi
        have HGt : Hid (∀ i, i < xs.length → (mkL xs.length (o5 xs k i)).getD i 0 = ppF xs k i) := fun i hi => by rw [mkL_get _ hi]; unfold o5; rw [if_neg (by omega)]
        have hn4 : (xs.length : Int) ≤ 4 := by omega
        rw [h3] at HAr
        clear h1 h2 h3 hc hcs hl
        generalize srC xs k = sc at *
        generalize srL xs k = sl at *
        go_enter Try.func9, Try.ntmps9
        go_wp2_with fail
        refine (HW1.out _).mono ?_
        rintro e w1 ⟨rfl, rfl⟩
        go_wp2_with fail
        refine (HT.out _).mono ?_
        rintro e w1 ⟨rfl, rfl⟩
        go_wp2_with fail
        refine (HAr.out _ HS0.out).mono ?_
        rintro e w1 ⟨rfl, hw1⟩
        have hw1' := hw1.symm
        subst hw1'
        clear hw1
        go_wp2_with fail
        refine (HPP.out _ HS0.out).mono ?_
        rintro e w2 ⟨rfl, hbi, hb2⟩
        have H0 : Hid (FG w (w.heap.size + 1) (mkL xs.length (o5 xs k 0)) w2) := by
          rw [World.size_alloc] at hbi
          rw [← HE0.out]
          exact ⟨HR0.out.later hb2, by omega, hbi, bthen HB0.out hb2⟩
        clear hbi hb2 HPP HS0 HR0 HB0 HE0 HAr HT HW1
        go_wp2_with fail
        go_loopw [27] (fun iv wr => ∃ j : Nat, j ≤ xs.length ∧ iv = .int .i64 (j : Int) ∧ Hid (FG w (w.heap.size + 1) (mkL xs.length (o5 xs k j)) wr)) (fun iv _ => xs.length - (intOf iv).toNat)
        case atStart => exact ⟨0, Nat.zero_le _, rfl, H0⟩
        case round =>
          obtain ⟨j, hj, rfl, hF⟩ := hrel
          clear H0
          by_cases hlt : j < xs.length
          · obtain ⟨a', cap', hv, hc⟩ := HSw.out.later hF.out.b
            cases hv
            obtain ⟨b, off, rfl, hbl, hcell⟩ := hc hne
            have hce := hcell j hlt
            have hjI : (j : Int) < (xs.length : Int) := by omega
            have hpb := HPb.out j hlt
            obtain ⟨e0, f0⟩ := hF.out.l.cell j (by rw [mkL_len]; exact hlt)
            rw [HGt.out j hlt] at e0
            have HSj := hid (HSt.out j hlt)
            have HKj := hid (HKp.out j)
            clear hc hcell HSt HKp HPb HGt HEn hne
            generalize xs.getD j 0 = x at *
            by_cases hx : x < 0
            · have F1 := hid (hF.out.set j (-(ppF xs k j)))
              rw [HSj.out hx] at F1
              clear hF HSj HKj
              generalize ppF xs k j = p at *
              go_wp2
              go_roundw
              case rel => exact ⟨j + 1, by omega, by go_num, F1⟩
              case measure => simp [intOf]; omega
            · have F1 := hid hF.out
              rw [HKj.out (by omega)] at F1
              clear hF HSj HKj
              generalize ppF xs k j = p at *
              go_wp2
              go_roundw
              case rel => exact ⟨j + 1, by omega, by go_num, F1⟩
              case measure => simp [intOf]; omega
          · obtain rfl : j = xs.length := by omega
            obtain ⟨c0, c1, f0, f1⟩ := hF.out.r.two
            have hO := hF.out.l.ow (base := w.heap.size + 1) (Nat.le_refl _) (by rw [mkL_len]; omega)
            rw [mkL_len, HEn.out] at hO
            have HO := hid (hO.set2 (.int .i64 0) (.slice (some ⟨w.heap.size + 1, 0, none⟩) xs.length xs.length))
            have HB2 := hid (below_set2 hF.out.b (.int .i64 0) (.slice (some ⟨w.heap.size + 1, 0, none⟩) xs.length xs.length))
            clear hF hO HEn HSt HKp HPb HGt hne
            go_wp2
            exact bodyPost_ret (v := .agg #[.int .i64 0, .slice (some ⟨w.heap.size + 1, 0, none⟩) xs.length xs.length]) (by simp [results, Try.results9, go_sem, c0, c1]) rfl ⟨_, by rw [← H.out.1], HO.out, HB2.out⟩
end Go.Proofs.Ytbbejjlgfekipaa.ShaI
