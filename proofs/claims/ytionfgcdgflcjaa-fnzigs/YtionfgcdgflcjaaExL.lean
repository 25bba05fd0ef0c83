/- The laws' own helpers over lists of slots. -/
import Derived.Test.YtionfgcdgflcjaaSlS
import Derived.Test.YtionfgcdgflcjaaByt
import Derived.Test.YtionfgcdgflcjaaBlk
namespace Go.Proofs.Ytionfgcdgflcjaa.ExL
open Go.ChangeShapes Go.WideShapes Go.ChangeAt Go.RowKit Go.Proofs.Ytionfgcdgflcjaa.Num Go.Proofs.Ytionfgcdgflcjaa.Sli Go.Proofs.Ytionfgcdgflcjaa.App Go.Proofs.Ytionfgcdgflcjaa.Byt Go.Proofs.Ytionfgcdgflcjaa.Blk Go.Proofs.Ytionfgcdgflcjaa.Dec Go.Proofs.Ytionfgcdgflcjaa.RangeM Go.Proofs.Ytionfgcdgflcjaa.SlS

theorem infoS : (Try.prog.info? 34).map (fun i => (i.zero, i.size, i.bytes)) = some (some (.agg #[.int .i64 0, .int .i64 0, .int .i64 0]), 3, 24) := by kernel_rfl
theorem flat_set (ls : List Sl3) (i : Nat) (a b c : Int) (hi : i < ls.length) : (((flat ls).set (i * 3) (.int .i64 a)).set (i * 3 + 1) (.int .i64 b)).set (i * 3 + 2) (.int .i64 c) = flat (ls.set i (a, b, c)) := by
  induction ls generalizing i with
  | nil => simp at hi
  | cons s t ih =>
    cases i with
    | zero => simp [flat]
    | succ i =>
      rw [show (i + 1) * 3 = i * 3 + 1 + 1 + 1 by omega]
      simp only [flat, List.set_cons_succ, ← ih i (by simpa using hi)]
theorem flat_zero (n : Nat) : flat (List.replicate n (0, 0, 0)) = List.replicate (n * 3) (Value.int .i64 0) := by
  induction n with
  | zero => rfl
  | succ n ih => rw [List.replicate_succ, show (n + 1) * 3 = n * 3 + 1 + 1 + 1 by omega]; simp only [flat, ih, List.replicate_succ]
theorem made_slots (n : Nat) : (madeCells #[Value.int .i64 0, .int .i64 0, .int .i64 0] (n * 3)).toList = flat (List.replicate n (0, 0, 0)) := by
  rw [flat_zero]
  apply List.ext_getElem
  · simp [size_madeCells]
  · intro i h1 h2
    simp only [madeCells, Array.toList_map, List.getElem_map, List.getElem_replicate]
    have : ∀ j : Nat, (#[Value.int .i64 0, .int .i64 0, .int .i64 0] : Array Value)[j % 3]! = .int .i64 0 := by
      intro j
      have h3 : j % 3 = 0 ∨ j % 3 = 1 ∨ j % 3 = 2 := by omega
      rcases h3 with h | h | h <;> rw [h] <;> rfl
    exact this _
theorem OwS.set3 {base g n cap : Nat} {w : World} {ls : List Sl3} (h : OwS base w (.slice (some ⟨g, 0, none⟩) n cap) ls) (hn : n = ls.length) (i : Nat) (hi : i < n) (a b c : Int) :
    OwS base (((w.setCell ⟨g, i * 3, none⟩ (.int .i64 a)).setCell ⟨g, i * 3 + 1, none⟩ (.int .i64 b)).setCell ⟨g, i * 3 + 2, none⟩ (.int .i64 c)) (.slice (some ⟨g, 0, none⟩) n cap) (ls.set i (a, b, c)) ∧
    w.grownBy (((w.setCell ⟨g, i * 3, none⟩ (.int .i64 a)).setCell ⟨g, i * 3 + 1, none⟩ (.int .i64 b)).setCell ⟨g, i * 3 + 2, none⟩ (.int .i64 c)) (some g) := by
  subst hn
  obtain ⟨h1, g1⟩ := World.ownsRow.stored h (i * 3) (.int .i64 a)
  obtain ⟨h2, g2⟩ := h1.stored (i * 3 + 1) (.int .i64 b)
  obtain ⟨h3, g3⟩ := h2.stored (i * 3 + 2) (.int .i64 c)
  rw [flat_set ls i a b c hi] at h3
  refine ⟨?_, grown_same (grown_same g1 g2) g3⟩
  show World.ownsRow _ base 34 3 _ (ls.set i (a, b, c)).length (flat (ls.set i (a, b, c)))
  rw [List.length_set]
  exact h3
theorem OwS.cells {base g n cap : Nat} {w : World} {ls : List Sl3} (h : OwS base w (.slice (some ⟨g, 0, none⟩) n cap) ls) (hn : n = ls.length) (i : Nat) (hi : i < n) :
    (w.cell? ⟨g, i * 3, none⟩ = some (.int .i64 (ls.getD i (0, 0, 0)).1) ∧ w.cell? ⟨g, i * 3 + 1, none⟩ = some (.int .i64 (ls.getD i (0, 0, 0)).2.1) ∧ w.cell? ⟨g, i * 3 + 2, none⟩ = some (.int .i64 (ls.getD i (0, 0, 0)).2.2)) ∧ (w.frozen? ⟨g, i * 3, none⟩ = false ∧ w.frozen? ⟨g, i * 3 + 1, none⟩ = false ∧ w.frozen? ⟨g, i * 3 + 2, none⟩ = false) := by
  subst hn
  obtain ⟨a, cap', hv, hc⟩ := h.sls
  cases hv
  obtain ⟨b, off, he, hlt, hcell⟩ := hc (by intro e; rw [e] at hi; simp at hi)
  cases he
  have := hcell i hi
  rw [Nat.zero_add] at this
  exact ⟨this, World.ownsRow.frozenAt h _, World.ownsRow.frozenAt h _, World.ownsRow.frozenAt h _⟩
theorem OwS.later {base : Nat} {w w' : World} {v : Value} {ls : List Sl3} (h : OwS base w v ls) (hb : Below w.heap.size w w') : OwS base w' v ls :=
  World.ownsRow.kept (row := none) h ⟨hb.os, hb.tape, hb.output, hb.size, fun j hj _ => hb.block j hj⟩ (by cases v.ownBlock <;> simp)
theorem OwS.block {base g n cap : Nat} {w : World} {ls : List Sl3} (h : OwS base w (.slice (some ⟨g, 0, none⟩) n cap) ls) : base ≤ g ∧ g < w.heap.size := by
  rcases h.2 with ⟨h0, _⟩ | ⟨g', c', cur, h0, hb, hg, _⟩
  · cases h0
  · cases h0; exact ⟨hb, (Array.getElem?_eq_some_iff.1 hg).1⟩
/-- What the copy holds behind k rounds. -/
def half3 (xs : List Sl3) (k : Nat) : List Sl3 := xs.take k ++ List.replicate (xs.length - k) (0, 0, 0)
theorem half3_len (xs : List Sl3) (k : Nat) (h : k ≤ xs.length) : (half3 xs k).length = xs.length := by
  unfold half3; simp; omega
theorem half3_set (xs : List Sl3) (k : Nat) (h : k < xs.length) : (half3 xs k).set k (xs.getD k (0, 0, 0)) = half3 xs (k + 1) := by
  unfold half3
  apply List.ext_getElem
  · simp; omega
  · intro i h1 h2
    simp only [List.getElem_set, List.getElem_append, List.length_take, List.getElem_take, List.getElem_replicate]
    by_cases e : k = i
    · subst e; simp [h, show k < min (k + 1) xs.length by omega]
    · simp only [e, if_false]
      by_cases hi : i < k
      · simp [show i < min k xs.length by omega, show i < min (k + 1) xs.length by omega]
      · simp [show ¬ i < min k xs.length by omega, show ¬ i < min (k + 1) xs.length by omega]
theorem eqSlot_calls (a b c : Int) (w : World) :
    Calls Try.prog 52 #[.agg #[.int .i64 a, .int .i64 b, .int .i64 c], .agg #[.int .i64 a, .int .i64 b, .int .i64 c]] w fun e w' => e = .returned (.bool true) ∧ Below w.heap.size w w' := by
  have H := hid (bmore (bmore (Below.refl _ w) (.cells #[.int .i64 a, .int .i64 b, .int .i64 c] 34)) (.cells #[.int .i64 a, .int .i64 b, .int .i64 c] 34))
  go_enter Try.func52, Try.ntmps52
  go_wp2
  go_ret
  exact ⟨rfl, H.out⟩
set_option maxHeartbeats 1000000 in
theorem eqSlotS_calls (v1 v2 : Value) (ls : List Sl3) (w : World) (h1 : SlS w v1 ls) (h2 : SlS w v2 ls) (hlen : ls.length ≤ 1048576) :
    Calls Try.prog 41 #[v1, v2] w fun e w' => e = .returned (.bool true) ∧ Below w.heap.size w w' := by
  have H1 := hid h1
  have H2 := hid h2
  obtain ⟨a1, cap1, rfl, hc1⟩ := h1
  obtain ⟨a2, cap2, rfl, hc2⟩ := h2
  clear hc1 hc2
  go_enter Try.func41, Try.ntmps41
  go_wp2
  go_loopw [5] (fun i wr => ∃ k : Nat, k ≤ ls.length ∧ i = .int .i64 k ∧ Hid (Below w.heap.size w wr)) (fun i _ => ls.length - (intOf i).toNat)
  case atStart => exact ⟨0, Nat.zero_le _, rfl, Below.refl _ _⟩
  case round =>
    obtain ⟨k, hk, rfl, hl⟩ := hrel
    by_cases hlt : k < ls.length
    · have hne : ls ≠ [] := by intro e; rw [e] at hlt; simp at hlt
      obtain ⟨a1', cap1', hv1, hc1⟩ := H1.out.later hl.out
      obtain ⟨a2', cap2', hv2, hc2⟩ := H2.out.later hl.out
      cases hv1
      cases hv2
      obtain ⟨b1, off1, rfl, hb1, hcell1⟩ := hc1 hne
      obtain ⟨b2, off2, rfl, hb2, hcell2⟩ := hc2 hne
      obtain ⟨c1, c2, c3⟩ := hcell1 k hlt
      obtain ⟨d1, d2, d3⟩ := hcell2 k hlt
      clear hc1 hc2 hcell1 hcell2
      generalize ls.getD k (0, 0, 0) = x at *
      obtain ⟨lo, sz, tot⟩ := x
      dsimp only at c1 c2 c3 d1 d2 d3
      have HE := hid (eqSlot_calls lo sz tot wr.drew)
      have HLd := hid hl.out.drew
      go_wp2_with fail
      refine wp_region_noPanic ?_
      refine wp_region_held_drew (S := fun W => Below w.heap.size w W ∧ (W.cell? ⟨b1, off1 + k * 3, none⟩ = some (.int .i64 lo) ∧ W.cell? ⟨b1, off1 + k * 3 + 1, none⟩ = some (.int .i64 sz) ∧ W.cell? ⟨b1, off1 + k * 3 + 2, none⟩ = some (.int .i64 tot)) ∧ (W.cell? ⟨b2, off2 + k * 3, none⟩ = some (.int .i64 lo) ∧ W.cell? ⟨b2, off2 + k * 3 + 1, none⟩ = some (.int .i64 sz) ∧ W.cell? ⟨b2, off2 + k * 3 + 2, none⟩ = some (.int .i64 tot))) (by kernel_rfl) ?_ (fun hHeld => ?_)
      · first | exact hK' | exact ⟨HLd.out, ⟨c1, c2, c3⟩, d1, d2, d3⟩
      (refine wpAnyH_take (i := 0) (v := ?_) rfl (by kernel_rfl) (by kernel_rfl) (by kernel_rfl) (fun _ _ _ h => h) (Or.inl ⟨by rfl, ?_⟩) hHeld ?_; rotate_left; (intro w hSw; obtain ⟨_, ⟨s1, s2, s3⟩, s4, s5, s6⟩ := hSw; (go_simp <;> with_reducible rfl)); simp only [List.getElem_toArray, List.getElem_cons_zero, Act.put, List.setIfInBounds_toArray, List.set_cons_zero, List.set_cons_succ])
      (refine wpAnyH_take (i := 1) (v := ?_) rfl (by kernel_rfl) (by kernel_rfl) (by kernel_rfl) (fun _ _ _ h => h) (Or.inl ⟨by rfl, ?_⟩) hHeld ?_; rotate_left; (intro w hSw; obtain ⟨_, ⟨s1, s2, s3⟩, s4, s5, s6⟩ := hSw; (go_simp <;> with_reducible rfl)); simp only [List.getElem_toArray, List.getElem_cons_zero, List.getElem_cons_succ, Act.put, List.setIfInBounds_toArray, List.set_cons_zero, List.set_cons_succ])
      (refine wpAnyH_take (i := 2) (v := ?_) rfl (by kernel_rfl) (by kernel_rfl) (by kernel_rfl) (fun _ _ _ h => h) (Or.inl ⟨by rfl, ?_⟩) hHeld ?_; rotate_left; (intro w hSw; obtain ⟨_, ⟨s1, s2, s3⟩, s4, s5, s6⟩ := hSw; (go_simp <;> with_reducible rfl)); simp only [List.getElem_toArray, List.getElem_cons_zero, List.getElem_cons_succ, Act.put, List.setIfInBounds_toArray, List.set_cons_zero, List.set_cons_succ])
      (refine wpAnyH_take (i := 3) (v := ?_) rfl (by kernel_rfl) (by kernel_rfl) (by kernel_rfl) (fun _ _ _ h => h) (Or.inl ⟨by rfl, ?_⟩) hHeld ?_; rotate_left; (intro w hSw; obtain ⟨_, ⟨s1, s2, s3⟩, s4, s5, s6⟩ := hSw; (go_simp <;> with_reducible rfl)); simp only [List.getElem_toArray, List.getElem_cons_zero, List.getElem_cons_succ, Act.put, List.setIfInBounds_toArray, List.set_cons_zero, List.set_cons_succ])
      (refine wpAnyH_take (i := 4) (v := ?_) rfl (by kernel_rfl) (by kernel_rfl) (by kernel_rfl) (fun _ _ _ h => h) (Or.inl ⟨by rfl, ?_⟩) hHeld ?_; rotate_left; (intro w hSw; obtain ⟨_, ⟨s1, s2, s3⟩, s4, s5, s6⟩ := hSw; (go_simp <;> with_reducible rfl)); simp only [List.getElem_toArray, List.getElem_cons_zero, List.getElem_cons_succ, Act.put, List.setIfInBounds_toArray, List.set_cons_zero, List.set_cons_succ])
      (refine wpAnyH_take (i := 5) (v := ?_) rfl (by kernel_rfl) (by kernel_rfl) (by kernel_rfl) (fun _ _ _ h => h) (Or.inl ⟨by rfl, ?_⟩) hHeld ?_; rotate_left; (intro w hSw; obtain ⟨_, ⟨s1, s2, s3⟩, s4, s5, s6⟩ := hSw; (go_simp <;> with_reducible rfl)); simp only [List.getElem_toArray, List.getElem_cons_zero, List.getElem_cons_succ, Act.put, List.setIfInBounds_toArray, List.set_cons_zero, List.set_cons_succ])
      (refine wpAnyH_take (i := 6) (v := ?_) rfl (by kernel_rfl) (by kernel_rfl) (by kernel_rfl) (fun _ _ _ h => h) (Or.inl ⟨by rfl, ?_⟩) hHeld ?_; rotate_left; (intro w hSw; obtain ⟨_, ⟨s1, s2, s3⟩, s4, s5, s6⟩ := hSw; (go_simp <;> with_reducible rfl)); simp only [List.getElem_toArray, List.getElem_cons_zero, List.getElem_cons_succ, Act.put, List.setIfInBounds_toArray, List.set_cons_zero, List.set_cons_succ])
      (refine wpAnyH_take (i := 7) (v := ?_) rfl (by kernel_rfl) (by kernel_rfl) (by kernel_rfl) (fun _ _ _ h => h) (Or.inl ⟨by rfl, ?_⟩) hHeld ?_; rotate_left; (intro w hSw; obtain ⟨_, ⟨s1, s2, s3⟩, s4, s5, s6⟩ := hSw; (go_simp <;> with_reducible rfl)); simp only [List.getElem_toArray, List.getElem_cons_zero, List.getElem_cons_succ, Act.put, List.setIfInBounds_toArray, List.set_cons_zero, List.set_cons_succ])
      (refine wpAnyH_ready (rs := [8]) (by kernel_rfl) (by simp) ?_; refine AllReadyH.cons rfl (fun K hK => ?_) AllReadyH.nil; go_simp; (refine HE.out.mono ?_; rintro e' w1 ⟨rfl, hw1⟩; have hK' := And.intro (bthen HLd.out hw1) (And.intro (And.intro ((hw1.cell (p := ⟨b1, off1 + k * 3, none⟩) hb1).trans c1) (And.intro ((hw1.cell (p := ⟨b1, off1 + k * 3 + 1, none⟩) hb1).trans c2) ((hw1.cell (p := ⟨b1, off1 + k * 3 + 2, none⟩) hb1).trans c3))) (And.intro ((hw1.cell (p := ⟨b2, off2 + k * 3, none⟩) hb2).trans d1) (And.intro ((hw1.cell (p := ⟨b2, off2 + k * 3 + 1, none⟩) hb2).trans d2) ((hw1.cell (p := ⟨b2, off2 + k * 3 + 2, none⟩) hb2).trans d3))))); refine hK.out _ _ ?_ (fun hHeld => ?_); (first | exact hK' | exact ⟨HLd.out, ⟨c1, c2, c3⟩, d1, d2, d3⟩); clear hK K; try dsimp only)
      (refine wpAnyH_take (i := 9) (v := ?_) rfl (by kernel_rfl) (by kernel_rfl) (by kernel_rfl) (fun _ _ _ h => h) (Or.inl ⟨by rfl, ?_⟩) hHeld ?_; rotate_left; (intro w hSw; obtain ⟨_, ⟨s1, s2, s3⟩, s4, s5, s6⟩ := hSw; (go_simp <;> with_reducible rfl)); simp only [List.getElem_toArray, List.getElem_cons_zero, List.getElem_cons_succ, Act.put, List.setIfInBounds_toArray, List.set_cons_zero, List.set_cons_succ])
      refine wpAnyH_done (by kernel_rfl) ?_ _
      refine NoPanic.normal ?_
      have HL := hid hHeld.1
      clear hHeld hK' hw1 c1 c2 c3 d1 d2 d3
      go_wp2
      go_roundw
      case rel => exact ⟨k + 1, by omega, by go_num, HL.out⟩
      case measure => simp [intOf]; omega
    · obtain rfl : k = ls.length := by omega
      go_wp2
      go_ret
      exact ⟨rfl, hl.out⟩
set_option maxHeartbeats 1000000 in
theorem markSlotS_calls (base g cap : Nat) (ls : List Sl3) (w : World) (h : OwS base w (.slice (some ⟨g, 0, none⟩) ls.length cap) ls) (hlen : ls.length ≤ 1048576) :
    Calls Try.prog 42 #[.slice (some ⟨g, 0, none⟩) ls.length cap, .int .i64 1] w fun e w' => e = .returned (.int .i64 (1 + 3 * (ls.length : Int))) ∧ w.grownBy w' (some g) := by
  have H := hid h
  clear h
  generalize hn : ls.length = n at *
  have Hn := hid hn
  clear hn
  go_enter Try.func42, Try.ntmps42
  go_wp2
  go_loopw [1, 5] (fun q i wr => ∃ (k : Nat) (ms : List Sl3), k ≤ n ∧ i = .int .i64 k ∧ q = .int .i64 (1 + 3 * (k : Int)) ∧ Hid (n = ms.length) ∧ Hid (OwS base wr (.slice (some ⟨g, 0, none⟩) n cap) ms) ∧ Hid (w.grownBy wr (some g))) (fun _ i _ => n - (intOf i).toNat)
  case atStart => exact ⟨0, ls, Nat.zero_le _, rfl, rfl, Hn.out.symm, H.out, grown_refl _ _⟩
  case round =>
    clear H
    obtain ⟨k, ms, hk, rfl, rfl, hm, ho, hg⟩ := hrel
    by_cases hlt : k < n
    · obtain ⟨⟨d1, d2, d3⟩, f1, f2, f3⟩ := OwS.cells ho.out hm.out k hlt
      obtain ⟨hs, hg2⟩ := OwS.set3 ho.out hm.out k hlt (1 + 3 * (k : Int)) (1 + 3 * (k : Int) + 1) (1 + 3 * (k : Int) + 1 + 1)
      have HO := hid hs
      have HG := hid (grown_same hg.out hg2)
      have hm2 : Hid (n = (ms.set k (1 + 3 * (k : Int), 1 + 3 * (k : Int) + 1, 1 + 3 * (k : Int) + 1 + 1)).length) := by show _ = _; rw [List.length_set]; exact hm.out
      clear hs hg2 ho hg
      generalize (ms.getD k (0, 0, 0)).1 = y1 at *
      generalize (ms.getD k (0, 0, 0)).2.1 = y2 at *
      generalize (ms.getD k (0, 0, 0)).2.2 = y3 at *
      go_wp2
      go_roundw
      case rel => exact ⟨k + 1, _, by omega, by go_num, by go_num, hm2.out, HO.out, HG.out⟩
      case measure => simp [intOf]; omega
    · obtain rfl : k = n := by omega
      go_wp2
      go_ret
      exact ⟨rfl, hg.out⟩
end Go.Proofs.Ytionfgcdgflcjaa.ExL
