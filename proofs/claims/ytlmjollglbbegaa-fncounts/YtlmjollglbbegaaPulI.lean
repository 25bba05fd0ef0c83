/- The program's map filled: every row of it up to the places and pulses that are asked for; how many there are; what is asked is within bounds. Conditions: one to four places, none to eight pulses, for the map. -/
import Derived.Test.YtlmjollglbbegaaPulH
import Derived.Deep.RegionHeld3
namespace Go.Proofs.Ytlmjollglbbegaa.PulI
open Go.ChangeShapes Go.WideShapes Go.ChangeAt Go.RowKit Go.Maps Go.MapKept Go.Proofs.Ytlmjollglbbegaa.Num Go.Proofs.Ytlmjollglbbegaa.Sli Go.Proofs.Ytlmjollglbbegaa.HalM Go.Proofs.Ytlmjollglbbegaa.PulM Go.Proofs.Ytlmjollglbbegaa.Blk Go.Proofs.Ytlmjollglbbegaa.App Go.Proofs.Ytlmjollglbbegaa.Div Go.Proofs.Ytlmjollglbbegaa.PulH

/-- In a region a condition may say more from here on. -/
theorem wpAnyH_more {P : Program} {md : Region.Mode} {ops : Array Oper} {Q : Exit → Act → World → Prop} {S S' : World → Prop} (hS : ∀ w, S' w → S w) :
    ∀ (fuel : Nat) (listed : Array Bool) (a : Act) (w : World), wpAnyH P md ops Q S' fuel listed a w → wpAnyH P md ops Q S fuel listed a w
  | 0, _, _, _, h => h
  | fuel + 1, _, _, _, h => ⟨h.1, fun i hi => wpOp_mono (fun a' w' h' => ⟨hS _ h'.1, wpAnyH_more hS fuel _ a' w' h'.2⟩) (h.2 i hi)⟩
theorem grown_drew' {w w' : World} {r : Option Nat} (h : w.drew.grownBy w' r) : w.grownBy w' r := ⟨h.os, h.tape, h.output, h.size, h.block⟩

set_option maxRecDepth 100000 in
set_option maxHeartbeats 2000000 in
theorem counts_calls (d k : Int) (w : World) (hd : 1 ≤ d ∧ d ≤ 4) (hk : 0 ≤ k ∧ k ≤ 8) :
    Calls Try.prog 16 #[.agg #[.int .i64 d, .int .i64 k]] w fun e w' => ∃ b, e = .returned (.map (some b)) ∧ (∃ n, MW (cF k (d + 1) 0) n w' b) ∧ w.heap.size ≤ b ∧ Below w.heap.size w w' := by
  have hmm : ∀ W : World, (Instr.makeMap 45 none).run Try.prog W = .ok (.map (some W.heap.size)) (W.alloc (.map #[] 0)) := fun W => by
    simp [Instr.makeMap, Result.andThen, newObj]
    rfl
  have HN := hid (MW.new (w.alloc (.cells #[.int .i64 d, .int .i64 k] 34)))
  have HB0 := hid (((Below.refl w.heap.size w).alloc (Nat.le_refl _) (.cells #[.int .i64 d, .int .i64 k] 34)).alloc (by rw [World.size_alloc]; omega) (.map #[] 0))
  have HK0 := hid ((Blk.new w #[.int .i64 d, .int .i64 k] 34).later (bmore (Below.refl _ _) (.map #[] 0)))
  rw [World.size_alloc] at HN
  obtain ⟨w1, hput, hL1, hg1⟩ := HN.out.put (by omega) (x := 0) (y := 0) (by unfold sm; omega) (by unfold sm; omega) 1 (by omega)
  go_enter Try.func16, Try.ntmps16
  go_wp2
  have HB1 := hid (HB0.out.grown hg1 HB0.out.size (fun j hj => by cases hj; omega))
  have HK1 := hid (HK0.out.kept hg1 (fun e => by have := Option.some.inj e; omega))
  have HL1 := hid (hL1.as (cF_first k))
  clear hL1 hg1 HN HB0 HK0 hmm hput
  go_loopw [4] (fun i wr => ∃ p n : Nat, 1 ≤ p ∧ (p : Int) ≤ d + 1 ∧ n ≤ 100 * p ∧ i = .int .i64 p ∧ Hid (MW (cF k p 0) n wr (w.heap.size + 1)) ∧ Hid (Blk wr w.heap.size #[.int .i64 d, .int .i64 k] 34) ∧ Hid (Below w.heap.size w wr)) (fun i _ => 5 - (intOf i).toNat)
  case atStart => exact ⟨1, 1, by omega, by omega, by omega, rfl, HL1, HK1, HB1⟩
  case round =>
    obtain ⟨p, n, hp1, hp, hn, rfl, HL, HK, HB⟩ := hrel
    clear HL1 HK1 HB1
    obtain ⟨c0, c1, _, _⟩ := HK.out.two
    by_cases hlt : (p : Int) ≤ d
    · have hp4 : p ≤ 4 := by omega
      go_wp2
      clear c0 c1
      go_loopw [18] (fun i wq => ∃ j m : Nat, (j : Int) ≤ k + 1 ∧ m ≤ n + j ∧ i = .int .i64 j ∧ Hid (MW (cF k p j) m wq (w.heap.size + 1)) ∧ Hid (Blk wq w.heap.size #[.int .i64 d, .int .i64 k] 34) ∧ Hid (Below w.heap.size w wq)) (fun i _ => 10 - (intOf i).toNat)
      case atStart => exact ⟨0, n, by omega, by omega, rfl, HL, HK, HB⟩
      case round =>
        clear HL HK HB
        obtain ⟨j, m, hj, hm, rfl, HL, HK, HB⟩ := hrel
        by_cases hjk : (j : Int) < k + 1
        · have e1 := hid (cF_step (K := k) (j := j) hp1 hp4 hk.2 (by omega))
          have e2 := hid (cF_up (K := k) (p := p) (j := j) hp1 (by omega))
          have b1 := cF_bd k p j (a := (p : Int) - 1) (b := j) (by omega) (by omega)
          have b2 := cF_bd k p j (a := p) (b := (j : Int) - 1) (by omega) (by omega)
          have b3 := cF_bd k p j (a := (p : Int) - 1) (b := (j : Int) - 1) (by omega) (by omega)
          have l1 := HL.out.drew.look (x := (p : Int) - 1) (y := j) (by unfold sm; omega) (by unfold sm; omega)
          have l2 := HL.out.drew.look (x := p) (y := (j : Int) - 1) (by unfold sm; omega) (by unfold sm; omega)
          have l3 := HL.out.drew.look (x := (p : Int) - 1) (y := (j : Int) - 1) (by unfold sm; omega) (by unfold sm; omega)
          obtain ⟨w4, hput, hL4, hg4⟩ := HL.out.drew.put (by omega) (x := p) (y := j) (by unfold sm; omega) (by unfold sm; omega) (cF k p j ((p : Int) - 1) j + cF k p j p ((j : Int) - 1) + cF k p j ((p : Int) - 1) ((j : Int) - 1)) (by omega)
          rw [e1.out] at hL4
          have HL4 := hid (hL4.as e2.out)
          have HB4 := hid (HB.out.drew.grown hg4 HB.out.size (fun j hj => by cases hj; omega))
          have HK4 := hid (HK.out.kept (grown_drew' hg4) (fun e => by have := Option.some.inj e; omega))
          clear hL4 hg4 e1 e2 HL HK HB
          generalize cF k p j ((p : Int) - 1) j = x1 at *
          generalize cF k p j p ((j : Int) - 1) = x2 at *
          generalize cF k p j ((p : Int) - 1) ((j : Int) - 1) = x3 at *
          go_wp2
          go_region
          go_wp2
          go_roundw
          case rel => exact ⟨j + 1, m + 1, by omega, by omega, by go_num, HL4, HK4, HB4⟩
          case measure => simp [intOf]; omega
        · have hjk' : (j : Int) = k + 1 := by omega
          have HL5 := hid (HL.out.as (cF_row (K := k) hp1 hjk'))
          clear HL
          go_wp2
          go_roundw
          case rel => exact ⟨p + 1, m, by omega, by omega, by omega, by go_num, HL5, HK, HB⟩
          case measure => simp [intOf]; omega
    · have hpe : (p : Int) = d + 1 := by omega
      go_wp2
      go_ret
      rw [hpe] at HL
      exact ⟨w.heap.size + 1, rfl, ⟨n, HL.out⟩, by omega, HB.out⟩
theorem MC {k d : Int} {n : Nat} {w : World} {b : Nat} (h : MW (cF k (d + 1) 0) n w b) {x y : Int} (hx : 0 ≤ x ∧ x ≤ d) (hy : 0 ≤ y ∧ y ≤ k) (hd : d ≤ 4) (hk : k ≤ 8) :
    (Instr.lookup 45 (.map (some b)) (.agg #[.int .i64 x, .int .i64 y]) false).run Try.prog w = .ok (.int .i64 (ctI x y)) w := by
  rw [← cF_in (K := k) (p := d + 1) (j := 0) hx.1 hy.1 hy.2 (by omega)]
  exact h.look (by unfold sm; omega) (by unfold sm; omega)
theorem many_calls (d k : Int) (w : World) (hd : 1 ≤ d ∧ d ≤ 4) (hk : 0 ≤ k ∧ k ≤ 8) :
    Calls Try.prog 11 #[.agg #[.int .i64 d, .int .i64 k]] w fun e w' => e = .returned (.int .i64 (ctI d k)) ∧ Below w.heap.size w w' := by
  have HC := hid (fun W => counts_calls d k W hd hk)
  have HK0 := hid (Blk.new w #[.int .i64 d, .int .i64 k] 34)
  have HB0 := hid ((Below.refl w.heap.size w).alloc (Nat.le_refl _) (.cells #[.int .i64 d, .int .i64 k] 34))
  go_enter Try.func11, Try.ntmps11
  go_wp2_with fail
  refine wp_region_noPanic ?_
  refine wp_region_held_drew (S := fun W => Below (w.heap.size + 1) (w.alloc (.cells #[.int .i64 d, .int .i64 k] 34)) W) (by kernel_rfl) ?_ (fun hHeld => ?_)
  · first | exact hK' | exact (Below.refl _ _).drew | assumption
  (refine wpAnyH_take (i := 0) (v := ?_) rfl (by kernel_rfl) (by kernel_rfl) (by kernel_rfl) (fun _ _ _ h => h) (Or.inl ⟨by rfl, ?_⟩) hHeld ?_; rotate_left; (intro w hSw; have ⟨c0, c1, _, _⟩ := (HK0.out.later (hSw.mono (by simp))).two; (go_simp <;> with_reducible rfl)); simp only [List.getElem_toArray, List.getElem_cons_zero, Act.put, List.setIfInBounds_toArray, List.set_cons_zero, List.set_cons_succ])
  (refine wpAnyH_take (i := 2) (v := ?_) rfl (by kernel_rfl) (by kernel_rfl) (by kernel_rfl) (fun _ _ _ h => h) (Or.inl ⟨by rfl, ?_⟩) hHeld ?_; rotate_left; (intro w hSw; have ⟨c0, c1, _, _⟩ := (HK0.out.later (hSw.mono (by simp))).two; (go_simp <;> with_reducible rfl)); simp only [List.getElem_toArray, List.getElem_cons_zero, List.getElem_cons_succ, Act.put, List.setIfInBounds_toArray, List.set_cons_zero, List.set_cons_succ])
  (refine wpAnyH_ready (rs := [1]) (by kernel_rfl) (by simp) ?_; refine AllReadyH.cons rfl (fun K hK => ?_) AllReadyH.nil; go_simp; (refine (HC.out _).mono ?_; rintro e w3 ⟨b, rfl, ⟨n, hM⟩, hb1, hb3⟩; have hK' := hHeld.trans (hb3.mono (by show w.heap.size + 1 ≤ (w.alloc _).heap.size; rw [World.size_alloc]; exact Nat.le_refl _))); refine hK.out _ _ ?_ (fun hHeld => ?_); (first | exact hK' | exact (Below.refl _ _).drew | assumption); clear hK K; try dsimp only)
  refine wpAnyH_more (S' := fun W => Below (w.heap.size + 1) (w.alloc (.cells #[.int .i64 d, .int .i64 k] 34)) W ∧ MW (cF k (d + 1) 0) n W b) (fun _ h => h.1) _ _ _ _ ?_
  replace hHeld := And.intro hHeld hM
  (refine wpAnyH_take (i := 3) (v := ?_) rfl (by kernel_rfl) (by kernel_rfl) (by kernel_rfl) (fun _ _ _ h => h) (Or.inl ⟨by rfl, ?_⟩) hHeld ?_; rotate_left; (intro w hSw; (have ⟨c0, c1, _, _⟩ := (HK0.out.later (hSw.1.mono (by simp))).two; have hlk := MC hSw.2 ⟨by omega, Int.le_refl _⟩ ⟨hk.1, Int.le_refl _⟩ hd.2 hk.2); (go_simp <;> with_reducible rfl)); simp only [List.getElem_toArray, List.getElem_cons_zero, List.getElem_cons_succ, Act.put, List.setIfInBounds_toArray, List.set_cons_zero, List.set_cons_succ])
  (refine wpAnyH_take (i := 4) (v := ?_) rfl (by kernel_rfl) (by kernel_rfl) (by kernel_rfl) (fun _ _ _ h => h) (Or.inl ⟨by rfl, ?_⟩) hHeld ?_; rotate_left; (intro w hSw; (have ⟨c0, c1, _, _⟩ := (HK0.out.later (hSw.1.mono (by simp))).two; have hlk := MC hSw.2 ⟨by omega, Int.le_refl _⟩ ⟨hk.1, Int.le_refl _⟩ hd.2 hk.2); (go_simp <;> with_reducible rfl)); simp only [List.getElem_toArray, List.getElem_cons_zero, List.getElem_cons_succ, Act.put, List.setIfInBounds_toArray, List.set_cons_zero, List.set_cons_succ])
  refine wpAnyH_done (by kernel_rfl) ?_ _
  refine NoPanic.normal ?_
  have HB := hid (HB0.out.trans (hHeld.1.mono (by simp)))
  clear hHeld HK0 HB0 HC
  go_wp2
  go_ret
  exact ⟨rfl, HB.out⟩
set_option maxHeartbeats 2000000 in
theorem isLot_calls (d k : Int) (w : World) :
    Calls Try.prog 10 #[.agg #[.int .i64 d, .int .i64 k]] w fun e w' => e = .returned (.bool (cpO d k)) ∧ Below w.heap.size w w' := by
  have HW := hid (isWithin_calls d 1 4)
  have HW2 := hid (isWithin_calls k 0 8)
  have HK0 := hid (Blk.new w #[.int .i64 d, .int .i64 k] 34)
  have HB0 := hid ((Below.refl w.heap.size w).alloc (Nat.le_refl _) (.cells #[.int .i64 d, .int .i64 k] 34))
  obtain ⟨c0, c1, _, _⟩ := HK0.out.two
  have hE : Hid (cpO d k = (inB 1 4 d && inB 0 8 k)) := hid rfl
  cases h : inB 1 4 d
  · rw [h] at HW hE
    go_enter Try.func10, Try.ntmps10
    go_wp2_with (go_at_call 15; refine (HW.out _).mono ?_; rintro e w' ⟨rfl, rfl⟩)
    go_ret
    exact ⟨by rw [hE.out]; rfl, HB0.out⟩
  · rw [h] at HW hE
    go_enter Try.func10, Try.ntmps10
    go_wp2_with fail
    refine (HW.out _).mono ?_
    rintro e w' ⟨rfl, rfl⟩
    go_wp2_with fail
    refine (HW2.out _).mono ?_
    rintro e w' ⟨rfl, rfl⟩
    go_wp2
    go_ret
    exact ⟨by rw [hE.out]; rfl, HB0.out⟩
theorem cp_no {d k : Int} (h : cpO d k = false) : cpC d k = 3 ∧ cpV d k = 0 := ⟨if_neg (by rw [h]; decide), if_neg (by rw [h]; decide)⟩
theorem cp_yes {d k : Int} (h : cpO d k = true) : cpC d k = 0 ∧ cpV d k = ctI d k ∧ (1 ≤ d ∧ d ≤ 4) ∧ 0 ≤ k ∧ k ≤ 8 := by
  have h2 := h
  unfold cpO at h2
  simp at h2
  exact ⟨if_pos h, if_pos h, of_inB h2.1, of_inB h2.2⟩
set_option maxHeartbeats 2000000 in
theorem implCountPulses_calls (d k : Int) (w : World) :
    Calls Try.prog 6 #[.int .i64 d, .int .i64 k] w fun e w' => e = .returned (.agg #[.int .i64 (cpC d k), .int .i64 (cpV d k)]) ∧ Below w.heap.size w w' := by
  have HL := hid (isLot_calls d k)
  cases h : cpO d k
  · have H := hid (cp_no h)
    rw [h] at HL
    go_enter Try.func6, Try.ntmps6
    go_wp2_with fail
    refine (HL.out _).mono ?_
    rintro e w1 ⟨rfl, hb1⟩
    obtain ⟨hR, _, hB, _⟩ := boxes2 hb1
    obtain ⟨c0, c1, f0, f1⟩ := hR.two
    have HB := hid hB
    clear hb1 hR hB HL h
    go_wp2
    exact bodyPost_ret (v := .agg #[.int .i64 3, .int .i64 0]) (by simp [results, Try.results6, go_sem, c0, c1]) rfl ⟨by rw [H.out.1, H.out.2], below_set2 HB.out _ _⟩
  · obtain ⟨e1, e2, hd, hk⟩ := cp_yes h
    have H := hid (And.intro e1 e2)
    have HM := hid (fun W => many_calls d k W hd hk)
    rw [h] at HL
    clear e1 e2 hd hk
    go_enter Try.func6, Try.ntmps6
    go_wp2_with fail
    refine (HL.out _).mono ?_
    rintro e w1 ⟨rfl, hb1⟩
    obtain ⟨hR, hV, hB, _⟩ := boxes2 hb1
    obtain ⟨v0, v1, _, _⟩ := hV.two
    have HB := hid hB
    have HR := hid hR
    clear hb1 hR hB hV HL h
    go_wp2_with fail
    refine (HM.out _).mono ?_
    rintro e w2 ⟨rfl, hb2⟩
    obtain ⟨c0, c1, f0, f1⟩ := (HR.out.later hb2).two
    have HB2 := hid (bthen HB.out hb2)
    clear hb2 HR HB v0 v1
    generalize ctI d k = x at *
    go_wp2
    exact bodyPost_ret (v := .agg #[.int .i64 0, .int .i64 x]) (by simp [results, Try.results6, go_sem, c0, c1]) rfl ⟨by rw [H.out.1, H.out.2], below_set2 HB2.out _ _⟩
end Go.Proofs.Ytlmjollglbbegaa.PulI
