/- Lists of bands: two cells each; the laws' own helpers over them; what an exact law over such an answer keeps. Condition: at most 1048576 bands. -/
import Derived.Test.YtodfkicmmcfkaaaApp
import Derived.Test.YtodfkicmmcfkaaaBlk
import Derived.RegionTactic
import Derived.Deep.RegionHeld3
namespace Go.Proofs.Ytodfkicmmcfkaaa.BaL
open Go.ChangeShapes Go.WideShapes Go.ChangeAt Go.RowKit Go.Proofs.Ytodfkicmmcfkaaa.Num Go.Proofs.Ytodfkicmmcfkaaa.Sli Go.Proofs.Ytodfkicmmcfkaaa.App Go.Proofs.Ytodfkicmmcfkaaa.Blk

abbrev B2 := Int × Int
/-- The slice v holds these bands in w. -/
def SlB (w : World) (v : Value) (ls : List B2) : Prop :=
  ∃ a cap, v = .slice a ls.length cap ∧ (ls ≠ [] → ∃ b off, a = some ⟨b, off, none⟩ ∧ b < w.heap.size ∧ ∀ i, i < ls.length →
    w.cell? ⟨b, off + i * 2, none⟩ = some (.int .i64 (ls.getD i (0, 0)).1) ∧ w.cell? ⟨b, off + i * 2 + 1, none⟩ = some (.int .i64 (ls.getD i (0, 0)).2))
theorem SlB.keep {w w' : World} {v : Value} {ls : List B2} {n : Nat} (h : SlB w v ls) (hb : Below n w w') (hn : w.heap.size ≤ n) : SlB w' v ls := by
  obtain ⟨a, cap, rfl, hc⟩ := h
  refine ⟨a, cap, rfl, fun hne => ?_⟩
  obtain ⟨b, off, rfl, hlt, hcell⟩ := hc hne
  refine ⟨b, off, rfl, Nat.lt_of_lt_of_le hlt (by have := hb.size; omega), fun i hi => ?_⟩
  obtain ⟨c1, c2⟩ := hcell i hi
  exact ⟨(hb.cell (p := ⟨b, off + i * 2, none⟩) (Nat.lt_of_lt_of_le hlt hn)).trans c1, (hb.cell (p := ⟨b, off + i * 2 + 1, none⟩) (Nat.lt_of_lt_of_le hlt hn)).trans c2⟩
theorem SlB.later {w w' : World} {v : Value} {ls : List B2} (h : SlB w v ls) (hb : Below w.heap.size w w') : SlB w' v ls := h.keep hb (Nat.le_refl _)
/-- What lies in the cells, one behind the other. -/
def flat : List B2 → List Value
  | [] => []
  | s :: t => .int .i64 s.1 :: .int .i64 s.2 :: flat t
theorem flat_len (ls : List B2) : (flat ls).length = ls.length * 2 := by
  induction ls with
  | nil => rfl
  | cons s t ih => simp [flat, ih]; omega
theorem flat_append (ls ms : List B2) : flat (ls ++ ms) = flat ls ++ flat ms := by
  induction ls with
  | nil => rfl
  | cons s t ih => simp [flat, ih]
theorem flat_get (ls : List B2) (i : Nat) (hi : i < ls.length) :
    (flat ls)[i * 2]? = some (.int .i64 (ls.getD i (0, 0)).1) ∧ (flat ls)[i * 2 + 1]? = some (.int .i64 (ls.getD i (0, 0)).2) := by
  induction ls generalizing i with
  | nil => simp at hi
  | cons s t ih =>
    cases i with
    | zero => simp [flat]
    | succ i =>
      obtain ⟨h1, h2⟩ := ih i (by simpa using hi)
      rw [show (i + 1) * 2 = i * 2 + 1 + 1 by omega]
      simp only [flat, List.getElem?_cons_succ, List.getD_cons_succ]
      exact ⟨h1, h2⟩
theorem flat_set (ls : List B2) (i : Nat) (a b : Int) (hi : i < ls.length) : ((flat ls).set (i * 2) (.int .i64 a)).set (i * 2 + 1) (.int .i64 b) = flat (ls.set i (a, b)) := by
  induction ls generalizing i with
  | nil => simp at hi
  | cons s t ih =>
    cases i with
    | zero => simp [flat]
    | succ i =>
      rw [show (i + 1) * 2 = i * 2 + 1 + 1 by omega]
      simp only [flat, List.set_cons_succ, ← ih i (by simpa using hi)]
/-- An owned list of bands. -/
def OwB (base : Nat) (w : World) (v : Value) (ls : List B2) : Prop := w.ownsRow base 40 2 v ls.length (flat ls)
theorem OwB.slb {base : Nat} {w : World} {v : Value} {ls : List B2} (h : OwB base w v ls) : SlB w v ls := by
  rcases h.2 with ⟨rfl, h0⟩ | ⟨g, cap, cur, rfl, hb, hg, hle, hc, hs, ht⟩
  · exact ⟨none, 0, by rw [h0], fun hne => by cases ls with | nil => exact absurd rfl hne | cons => simp at h0⟩
  · refine ⟨_, cap, rfl, fun hne => ⟨g, 0, rfl, (Array.getElem?_eq_some_iff.1 hg).1, fun i hi => ?_⟩⟩
    have key : ∀ j x, j < ls.length * 2 → (flat ls)[j]? = some x → w.cell? ⟨g, 0 + j, none⟩ = some x := by
      intro j x hj hx
      rw [← ht, List.getElem?_take_of_lt hj, Array.getElem?_toList] at hx
      simp [World.cell?, hg, hx]
    obtain ⟨h1, h2⟩ := flat_get ls i hi
    have k1 := key _ _ (by omega) h1
    have k2 := key _ _ (by omega) h2
    rw [← Nat.add_assoc] at k2
    exact ⟨k1, k2⟩
theorem OwB.set2 {base g n cap : Nat} {w : World} {ls : List B2} (h : OwB base w (.slice (some ⟨g, 0, none⟩) n cap) ls) (hn : n = ls.length) (i : Nat) (hi : i < n) (a b : Int) :
    OwB base ((w.setCell ⟨g, i * 2, none⟩ (.int .i64 a)).setCell ⟨g, i * 2 + 1, none⟩ (.int .i64 b)) (.slice (some ⟨g, 0, none⟩) n cap) (ls.set i (a, b)) ∧
    w.grownBy ((w.setCell ⟨g, i * 2, none⟩ (.int .i64 a)).setCell ⟨g, i * 2 + 1, none⟩ (.int .i64 b)) (some g) := by
  subst hn
  obtain ⟨h1, g1⟩ := World.ownsRow.stored h (i * 2) (.int .i64 a)
  obtain ⟨h2, g2⟩ := h1.stored (i * 2 + 1) (.int .i64 b)
  rw [flat_set ls i a b hi] at h2
  refine ⟨?_, grown_same g1 g2⟩
  show World.ownsRow _ base 40 2 _ (ls.set i (a, b)).length (flat (ls.set i (a, b)))
  rw [List.length_set]
  exact h2
theorem OwB.cells {base g n cap : Nat} {w : World} {ls : List B2} (h : OwB base w (.slice (some ⟨g, 0, none⟩) n cap) ls) (hn : n = ls.length) (i : Nat) (hi : i < n) :
    (w.cell? ⟨g, i * 2, none⟩ = some (.int .i64 (ls.getD i (0, 0)).1) ∧ w.cell? ⟨g, i * 2 + 1, none⟩ = some (.int .i64 (ls.getD i (0, 0)).2)) ∧ (w.frozen? ⟨g, i * 2, none⟩ = false ∧ w.frozen? ⟨g, i * 2 + 1, none⟩ = false) := by
  subst hn
  obtain ⟨a, cap', hv, hc⟩ := h.slb
  cases hv
  obtain ⟨b, off, he, hlt, hcell⟩ := hc (by intro e; rw [e] at hi; simp at hi)
  cases he
  have := hcell i hi
  rw [Nat.zero_add] at this
  exact ⟨this, World.ownsRow.frozenAt h _, World.ownsRow.frozenAt h _⟩
theorem OwB.later {base : Nat} {w w' : World} {v : Value} {ls : List B2} (h : OwB base w v ls) (hb : Below w.heap.size w w') : OwB base w' v ls :=
  World.ownsRow.kept (row := none) h ⟨hb.os, hb.tape, hb.output, hb.size, fun j hj _ => hb.block j hj⟩ (by cases v.ownBlock <;> simp)
theorem OwB.kept {base : Nat} {w w' : World} {v : Value} {ls : List B2} {row : Option Nat} (h : OwB base w v ls) (hg : w.grownBy w' row) (hr : ∀ j, row = some j → j < base) : OwB base w' v ls := by
  have h' : w.ownsRow base 40 2 v ls.length (flat ls) := h
  refine h'.kept hg ?_
  cases hv : v.ownBlock with
  | none => exact Or.inl rfl
  | some j =>
    right
    intro e
    have := (h'.lt j hv).1
    have := hr j e.symm
    omega
theorem OwB.mono {base base' : Nat} {w : World} {v : Value} {ls : List B2} (h : OwB base w v ls) (hb : base' ≤ base) : OwB base' w v ls := by
  refine ⟨h.1, ?_⟩
  rcases h.2 with h0 | ⟨g, cap, cur, h1, h2, h3⟩
  · exact .inl h0
  · exact .inr ⟨g, cap, cur, h1, Nat.le_trans hb h2, h3⟩
theorem OwB.lt {base : Nat} {w : World} {v : Value} {ls : List B2} (h : OwB base w v ls) : ∀ j, v.ownBlock = some j → base ≤ j ∧ j < w.heap.size := by
  have h' : w.ownsRow base 40 2 v ls.length (flat ls) := h
  exact h'.lt
theorem owB_nil (base : Nat) (w : World) : OwB base w (.slice none 0 0) [] := ⟨rfl, .inl ⟨rfl, rfl⟩⟩
theorem owB_one (base : Nat) (w : World) (a b : Int) (hb : base ≤ w.heap.size) : OwB base (w.alloc (.cells #[.int .i64 a, .int .i64 b] 40)) (.slice (some ⟨w.heap.size, 0, none⟩) 1 1) [(a, b)] :=
  ⟨rfl, .inr ⟨w.heap.size, 1, _, rfl, hb, World.alloc_heap_new w _, Nat.le_refl _, of_decide_eq_true rfl, rfl, rfl⟩⟩
theorem owB_two (base : Nat) (w : World) (a b c d : Int) (hb : base ≤ w.heap.size) : OwB base (w.alloc (.cells #[.int .i64 a, .int .i64 b, .int .i64 c, .int .i64 d] 40)) (.slice (some ⟨w.heap.size, 0, none⟩) 2 2) [(a, b), (c, d)] :=
  ⟨rfl, .inr ⟨w.heap.size, 2, _, rfl, hb, World.alloc_heap_new w _, Nat.le_refl _, of_decide_eq_true rfl, rfl, rfl⟩⟩
theorem OwB.setR {R : Nat} {w : World} {v : Value} {ls : List B2} (h : OwB (R + 1) w v ls) (x y : Value) : OwB R ((w.setCell ⟨R, 0, none⟩ x).setCell ⟨R, 1, none⟩ y) v ls :=
  ((h.kept (grown_set w R 0 x) (fun j e => by cases e; omega)).kept (grown_set _ R 1 y) (fun j e => by cases e; omega)).mono (by omega)
theorem eqBand_calls (a b : Int) (w : World) :
    Calls Try.prog 64 #[.agg #[.int .i64 a, .int .i64 b], .agg #[.int .i64 a, .int .i64 b]] w fun e w' => e = .returned (.bool true) ∧ Below w.heap.size w w' := by
  have H := hid (bmore (bmore (Below.refl _ w) (.cells #[.int .i64 a, .int .i64 b] 40)) (.cells #[.int .i64 a, .int .i64 b] 40))
  go_enter Try.func64, Try.ntmps64
  go_wp2
  go_ret
  exact ⟨rfl, H.out⟩
set_option maxHeartbeats 1000000 in
theorem eqBandS_calls (v1 v2 : Value) (ls : List B2) (w : World) (h1 : SlB w v1 ls) (h2 : SlB w v2 ls) (hlen : ls.length ≤ 1048576) :
    Calls Try.prog 50 #[v1, v2] w fun e w' => e = .returned (.bool true) ∧ Below w.heap.size w w' := by
  have H1 := hid h1
  have H2 := hid h2
  obtain ⟨a1, cap1, rfl, hc1⟩ := h1
  obtain ⟨a2, cap2, rfl, hc2⟩ := h2
  clear hc1 hc2
  go_enter Try.func50, Try.ntmps50
  go_wp2
  go_loopw [5] (fun i wr => ∃ k : Nat, k ≤ ls.length ∧ i = .int .i64 k ∧ Hid (Below w.heap.size w wr)) (fun i _ => ls.length - (intOf i).toNat)
  case atStart => exact ⟨0, Nat.zero_le _, rfl, Below.refl _ _⟩
  case round =>
    obtain ⟨k, hk, rfl, hl⟩ := hrel
    by_cases hlt : k < ls.length
    · have hne : ls ≠ [] := by intro e; rw [e] at hlt; simp at hlt
      obtain ⟨a1', cap1', hv1, hc1⟩ := H1.out.later hl.out
      obtain ⟨a2', cap2', hv2, hc2⟩ := H2.out.later hl.out
      cases hv1
      cases hv2
      obtain ⟨b1, off1, rfl, hb1, hcell1⟩ := hc1 hne
      obtain ⟨b2, off2, rfl, hb2, hcell2⟩ := hc2 hne
      obtain ⟨c1, c2⟩ := hcell1 k hlt
      obtain ⟨d1, d2⟩ := hcell2 k hlt
      clear hc1 hc2 hcell1 hcell2
      generalize ls.getD k (0, 0) = x at *
      obtain ⟨lo, sz⟩ := x
      dsimp only at c1 c2 d1 d2
      have HE := hid (eqBand_calls lo sz wr.drew)
      have HLd := hid hl.out.drew
      go_wp2_with fail
      refine wp_region_noPanic ?_
      refine wp_region_held_drew (S := fun W => Below w.heap.size w W ∧ (W.cell? ⟨b1, off1 + k * 2, none⟩ = some (.int .i64 lo) ∧ W.cell? ⟨b1, off1 + k * 2 + 1, none⟩ = some (.int .i64 sz)) ∧ (W.cell? ⟨b2, off2 + k * 2, none⟩ = some (.int .i64 lo) ∧ W.cell? ⟨b2, off2 + k * 2 + 1, none⟩ = some (.int .i64 sz))) (by kernel_rfl) ?_ (fun hHeld => ?_)
      · first | exact hK' | exact ⟨HLd.out, ⟨c1, c2⟩, d1, d2⟩
      (refine wpAnyH_take (i := 0) (v := ?_) rfl (by kernel_rfl) (by kernel_rfl) (by kernel_rfl) (fun _ _ _ h => h) (Or.inl ⟨by rfl, ?_⟩) hHeld ?_; rotate_left; (intro w hSw; obtain ⟨_, ⟨s1, s2⟩, s4, s5⟩ := hSw; (go_simp <;> with_reducible rfl)); simp only [List.getElem_toArray, List.getElem_cons_zero, Act.put, List.setIfInBounds_toArray, List.set_cons_zero, List.set_cons_succ])
      (refine wpAnyH_take (i := 1) (v := ?_) rfl (by kernel_rfl) (by kernel_rfl) (by kernel_rfl) (fun _ _ _ h => h) (Or.inl ⟨by rfl, ?_⟩) hHeld ?_; rotate_left; (intro w hSw; obtain ⟨_, ⟨s1, s2⟩, s4, s5⟩ := hSw; (go_simp <;> with_reducible rfl)); simp only [List.getElem_toArray, List.getElem_cons_zero, List.getElem_cons_succ, Act.put, List.setIfInBounds_toArray, List.set_cons_zero, List.set_cons_succ])
      (refine wpAnyH_take (i := 2) (v := ?_) rfl (by kernel_rfl) (by kernel_rfl) (by kernel_rfl) (fun _ _ _ h => h) (Or.inl ⟨by rfl, ?_⟩) hHeld ?_; rotate_left; (intro w hSw; obtain ⟨_, ⟨s1, s2⟩, s4, s5⟩ := hSw; (go_simp <;> with_reducible rfl)); simp only [List.getElem_toArray, List.getElem_cons_zero, List.getElem_cons_succ, Act.put, List.setIfInBounds_toArray, List.set_cons_zero, List.set_cons_succ])
      (refine wpAnyH_take (i := 3) (v := ?_) rfl (by kernel_rfl) (by kernel_rfl) (by kernel_rfl) (fun _ _ _ h => h) (Or.inl ⟨by rfl, ?_⟩) hHeld ?_; rotate_left; (intro w hSw; obtain ⟨_, ⟨s1, s2⟩, s4, s5⟩ := hSw; (go_simp <;> with_reducible rfl)); simp only [List.getElem_toArray, List.getElem_cons_zero, List.getElem_cons_succ, Act.put, List.setIfInBounds_toArray, List.set_cons_zero, List.set_cons_succ])
      (refine wpAnyH_take (i := 4) (v := ?_) rfl (by kernel_rfl) (by kernel_rfl) (by kernel_rfl) (fun _ _ _ h => h) (Or.inl ⟨by rfl, ?_⟩) hHeld ?_; rotate_left; (intro w hSw; obtain ⟨_, ⟨s1, s2⟩, s4, s5⟩ := hSw; (go_simp <;> with_reducible rfl)); simp only [List.getElem_toArray, List.getElem_cons_zero, List.getElem_cons_succ, Act.put, List.setIfInBounds_toArray, List.set_cons_zero, List.set_cons_succ])
      (refine wpAnyH_take (i := 5) (v := ?_) rfl (by kernel_rfl) (by kernel_rfl) (by kernel_rfl) (fun _ _ _ h => h) (Or.inl ⟨by rfl, ?_⟩) hHeld ?_; rotate_left; (intro w hSw; obtain ⟨_, ⟨s1, s2⟩, s4, s5⟩ := hSw; (go_simp <;> with_reducible rfl)); simp only [List.getElem_toArray, List.getElem_cons_zero, List.getElem_cons_succ, Act.put, List.setIfInBounds_toArray, List.set_cons_zero, List.set_cons_succ])
      (refine wpAnyH_take (i := 6) (v := ?_) rfl (by kernel_rfl) (by kernel_rfl) (by kernel_rfl) (fun _ _ _ h => h) (Or.inl ⟨by rfl, ?_⟩) hHeld ?_; rotate_left; (intro w hSw; obtain ⟨_, ⟨s1, s2⟩, s4, s5⟩ := hSw; (go_simp <;> with_reducible rfl)); simp only [List.getElem_toArray, List.getElem_cons_zero, List.getElem_cons_succ, Act.put, List.setIfInBounds_toArray, List.set_cons_zero, List.set_cons_succ])
      (refine wpAnyH_take (i := 7) (v := ?_) rfl (by kernel_rfl) (by kernel_rfl) (by kernel_rfl) (fun _ _ _ h => h) (Or.inl ⟨by rfl, ?_⟩) hHeld ?_; rotate_left; (intro w hSw; obtain ⟨_, ⟨s1, s2⟩, s4, s5⟩ := hSw; (go_simp <;> with_reducible rfl)); simp only [List.getElem_toArray, List.getElem_cons_zero, List.getElem_cons_succ, Act.put, List.setIfInBounds_toArray, List.set_cons_zero, List.set_cons_succ])
      (refine wpAnyH_ready (rs := [8]) (by kernel_rfl) (by simp) ?_; refine AllReadyH.cons rfl (fun K hK => ?_) AllReadyH.nil; go_simp; (refine HE.out.mono ?_; rintro e' w1 ⟨rfl, hw1⟩; have hK' := And.intro (bthen HLd.out hw1) (And.intro (And.intro ((hw1.cell (p := ⟨b1, off1 + k * 2, none⟩) hb1).trans c1) ((hw1.cell (p := ⟨b1, off1 + k * 2 + 1, none⟩) hb1).trans c2)) (And.intro ((hw1.cell (p := ⟨b2, off2 + k * 2, none⟩) hb2).trans d1) ((hw1.cell (p := ⟨b2, off2 + k * 2 + 1, none⟩) hb2).trans d2)))); refine hK.out _ _ ?_ (fun hHeld => ?_); (first | exact hK' | exact ⟨HLd.out, ⟨c1, c2⟩, d1, d2⟩); clear hK K; try dsimp only)
      (refine wpAnyH_take (i := 9) (v := ?_) rfl (by kernel_rfl) (by kernel_rfl) (by kernel_rfl) (fun _ _ _ h => h) (Or.inl ⟨by rfl, ?_⟩) hHeld ?_; rotate_left; (intro w hSw; obtain ⟨_, ⟨s1, s2⟩, s4, s5⟩ := hSw; (go_simp <;> with_reducible rfl)); simp only [List.getElem_toArray, List.getElem_cons_zero, List.getElem_cons_succ, Act.put, List.setIfInBounds_toArray, List.set_cons_zero, List.set_cons_succ])
      refine wpAnyH_done (by kernel_rfl) ?_ _
      refine NoPanic.normal ?_
      have HL := hid hHeld.1
      clear hHeld hK' hw1 c1 c2 d1 d2
      go_wp2
      go_roundw
      case rel => exact ⟨k + 1, by omega, by go_num, HL.out⟩
      case measure => simp [intOf]; omega
    · obtain rfl : k = ls.length := by omega
      go_wp2
      go_ret
      exact ⟨rfl, hl.out⟩
/-- The marks. -/
def mk2 (i : Nat) : B2 := (1 + 2 * (i : Int), 1 + 2 * (i : Int) + 1)
def marks2 (n : Nat) : List B2 := (List.range n).map mk2
theorem marks2_len (n : Nat) : (marks2 n).length = n := by simp [marks2]
theorem marks2_get (n i : Nat) (h : i < n) : (marks2 n).getD i (0, 0) = mk2 i := by simp [marks2, h]
def marked2 (ls : List B2) (i : Nat) : List B2 := marks2 i ++ ls.drop i
theorem marked2_len (ls : List B2) (i : Nat) (h : i ≤ ls.length) : (marked2 ls i).length = ls.length := by simp [marked2, marks2_len]; omega
theorem marked2_all (ls : List B2) : marked2 ls ls.length = marks2 ls.length := by simp [marked2]
theorem marked2_set (ls : List B2) (i : Nat) (h : i < ls.length) : (marked2 ls i).set i (mk2 i) = marked2 ls (i + 1) := by
  unfold marked2
  apply List.ext_getElem
  · simp [marks2_len]; omega
  · intro j h1 h2
    simp only [List.getElem_set, List.getElem_append, marks2_len, List.getElem_drop]
    by_cases e : i = j
    · subst e; simp [marks2, show i < i + 1 by omega]
    · simp only [e, if_false]
      by_cases hi : j < i
      · simp [hi, show j < i + 1 by omega, marks2]
      · simp only [hi, show ¬ j < i + 1 by omega, dite_false]
        congr 1
        omega
set_option maxHeartbeats 1000000 in
theorem mark2_some (base g cap n : Nat) (ls : List B2) (w : World) (h : OwB base w (.slice (some ⟨g, 0, none⟩) n cap) ls) (hn : n = ls.length) (hlen : n ≤ 1048576) :
    Calls Try.prog 51 #[.slice (some ⟨g, 0, none⟩) n cap, .int .i64 1] w fun e w' => e = .returned (.int .i64 (1 + 2 * (n : Int))) ∧ OwB base w' (.slice (some ⟨g, 0, none⟩) n cap) (marks2 n) ∧ w.grownBy w' (some g) := by
  have H := hid h
  have Hn := hid hn
  clear h hn
  go_enter Try.func51, Try.ntmps51
  go_wp2_with fail
  go_loopw [1, 5] (fun q i wr => ∃ k : Nat, k ≤ n ∧ i = .int .i64 k ∧ q = .int .i64 (1 + 2 * (k : Int)) ∧ Hid (OwB base wr (.slice (some ⟨g, 0, none⟩) n cap) (marked2 ls k)) ∧ Hid (w.grownBy wr (some g))) (fun _ i _ => n - (intOf i).toNat)
  case atStart => exact ⟨0, Nat.zero_le _, rfl, rfl, H.out, grown_refl _ _⟩
  case round =>
    clear H
    obtain ⟨k, hk, rfl, rfl, ho, hg⟩ := hrel
    have hm : n = (marked2 ls k).length := by have := Hn.out; rw [marked2_len _ _ (by omega)]; exact this
    by_cases hlt : k < n
    · obtain ⟨⟨d1, d2⟩, f1, f2⟩ := OwB.cells ho.out hm k hlt
      obtain ⟨hs, hg2⟩ := OwB.set2 ho.out hm k hlt (1 + 2 * (k : Int)) (1 + 2 * (k : Int) + 1)
      have hset := marked2_set ls k (by have := Hn.out; omega)
      unfold mk2 at hset
      rw [hset] at hs
      have HO := hid hs
      have HG := hid (grown_same hg.out hg2)
      clear hs hg2 ho hg hset hm
      generalize ((marked2 ls k).getD k (0, 0)).1 = y1 at *
      generalize ((marked2 ls k).getD k (0, 0)).2 = y2 at *
      go_wp2
      go_roundw
      case rel => exact ⟨k + 1, by omega, by go_num, by go_num, HO.out, HG.out⟩
      case measure => simp [intOf]; omega
    · obtain rfl : k = n := by omega
      clear hm
      have e1 : Hid (marked2 ls k = marks2 k) := by show _ = _; have := Hn.out; subst this; exact marked2_all ls
      rw [e1.out] at ho
      go_wp2
      go_ret
      exact ⟨rfl, ho.out, hg.out⟩
theorem mark2_nil (w : World) : Calls Try.prog 51 #[.slice none 0 0, .int .i64 1] w fun e w' => e = .returned (.int .i64 1) ∧ w' = w := by
  go_enter Try.func51, Try.ntmps51
  go_wp2_with fail
  go_loop [1, 5] (fun q i => q = .int .i64 1 ∧ i = .int .i64 0) (fun _ _ => 0)
  case atStart => exact ⟨rfl, rfl⟩
  case round =>
    obtain ⟨rfl, rfl⟩ := hrel
    go_wp2
    go_ret
    exact ⟨rfl, rfl⟩
theorem mark2_calls (base : Nat) (v : Value) (ls : List B2) (w : World) (h : OwB base w v ls) (hlen : ls.length ≤ 1048576) :
    Calls Try.prog 51 #[v, .int .i64 1] w fun e w' => e = .returned (.int .i64 (1 + 2 * (ls.length : Int))) ∧ OwB base w' v (marks2 ls.length) ∧ w.grownBy w' v.ownBlock := by
  have h' := h
  rcases h'.2 with ⟨rfl, h0⟩ | ⟨g, cap, cur, rfl, _⟩
  · have e : ls = [] := List.length_eq_zero_iff.1 h0
    subst e
    exact (mark2_nil w).mono fun e w' ⟨he, hw⟩ => by subst hw; exact ⟨he, h, grown_refl _ _⟩
  · exact mark2_some base g cap _ ls w h rfl hlen
set_option maxHeartbeats 1000000 in
theorem held2_calls (v : Value) (n : Nat) (w : World) (h : SlB w v (marks2 n)) (hlen : n ≤ 1048576) :
    Calls Try.prog 52 #[v, .int .i64 1] w fun e w' => e = .returned (.int .i64 (1 + 2 * (n : Int))) ∧ w' = w := by
  have H := hid h
  obtain ⟨a, cap, rfl, hc⟩ := h
  rw [marks2_len] at *
  clear hc
  go_enter Try.func52, Try.ntmps52
  go_wp2_with fail
  go_loop [1, 5] (fun q i => ∃ k : Nat, k ≤ n ∧ i = .int .i64 k ∧ q = .int .i64 (1 + 2 * (k : Int))) (fun _ i => n - (intOf i).toNat)
  case atStart => exact ⟨0, Nat.zero_le _, rfl, rfl⟩
  case round =>
    obtain ⟨k, hk, rfl, rfl⟩ := hrel
    by_cases hlt : k < n
    · obtain ⟨a', cap', hv, hc⟩ := H.out
      rw [marks2_len] at hv hc
      cases hv
      obtain ⟨b, off, rfl, hbl, hcell⟩ := hc (by intro e; have := marks2_len n; rw [e] at this; simp at this; omega)
      obtain ⟨c1, c2⟩ := hcell k hlt
      rw [marks2_get n k hlt] at c1 c2
      dsimp only [mk2] at c1 c2
      clear hc hcell
      go_wp2
      go_round
      case rel => exact ⟨k + 1, by omega, by go_num, by go_num⟩
      case measure => simp [intOf]; omega
    · obtain rfl : k = n := by omega
      go_wp2
      go_ret
      exact ⟨rfl, rfl⟩
theorem eqBandsResult_calls (c : Int) (v1 v2 : Value) (ls : List B2) (w : World) (h1 : SlB w v1 ls) (h2 : SlB w v2 ls) (hlen : ls.length ≤ 1048576) :
    Calls Try.prog 21 #[.agg #[.int .i64 c, v1], .agg #[.int .i64 c, v2]] w fun e w' => e = .returned (.bool true) ∧ Below w.heap.size w w' := by
  have HB := hid (bmore (bmore (Below.refl _ w) (.cells #[.int .i64 c, v1] 35)) (.cells #[.int .i64 c, v2] 35))
  have H1 := hid (h1.later HB.out)
  have H2 := hid (h2.later HB.out)
  obtain ⟨a1, cap1, rfl, _⟩ := h1
  obtain ⟨a2, cap2, rfl, _⟩ := h2
  go_enter Try.func21, Try.ntmps21
  go_wp2_with fail
  refine (eqBandS_calls _ _ ls _ H1.out H2.out hlen).mono ?_
  rintro e w1 ⟨rfl, hb⟩
  have HW := hid (bthen HB.out hb)
  clear hb
  go_wp2
  go_ret
  exact ⟨rfl, HW.out⟩
theorem markBandsResult_calls (base : Nat) (c : Int) (v : Value) (ls : List B2) (w : World) (h : OwB base w v ls) (hlen : ls.length ≤ 1048576) :
    Calls Try.prog 22 #[.agg #[.int .i64 c, v], .int .i64 1] w fun e w' => e = .returned (.int .i64 (1 + 2 * (ls.length : Int))) ∧ OwB base w' v (marks2 ls.length) ∧ w.grownBy w' v.ownBlock := by
  have HB := bmore (Below.refl _ w) (.cells #[.int .i64 c, v] 35)
  have HM := hid (mark2_calls base v ls _ (OwB.later h HB) hlen)
  obtain ⟨a1, cap1, rfl, _⟩ := h.slb
  clear HB
  generalize ls.length = n at *
  go_enter Try.func22, Try.ntmps22
  go_wp2_with fail
  refine HM.out.mono ?_
  rintro e w1 ⟨rfl, ho, hg⟩
  have HO := hid ho
  have HG : Hid (w.grownBy w1 (Value.slice a1 n cap1).ownBlock) := ⟨hg.os, hg.tape, hg.output, Nat.le_trans (by simp) hg.size, fun j hj hne => (hg.block j (by simp; omega) hne).trans (Below.heap_alloc w _ j hj)⟩
  clear ho hg HM
  go_wp2
  go_ret
  exact ⟨rfl, HO.out, HG.out⟩
theorem heldBandsResult_calls (c : Int) (v : Value) (n : Nat) (w : World) (h : SlB w v (marks2 n)) (hlen : n ≤ 1048576) :
    Calls Try.prog 23 #[.agg #[.int .i64 c, v], .int .i64 1] w fun e w' => e = .returned (.int .i64 (1 + 2 * (n : Int))) ∧ Below w.heap.size w w' := by
  have HB := bmore (Below.refl _ w) (.cells #[.int .i64 c, v] 35)
  have HM := hid (held2_calls v n _ (h.later HB) hlen)
  have HW := hid HB
  obtain ⟨a1, cap1, rfl, _⟩ := h
  have hn : 0 ≤ 1 + 2 * (n : Int) := by omega
  clear HB
  generalize (marks2 n).length = m at *
  go_enter Try.func23, Try.ntmps23
  go_wp2_with fail
  refine HM.out.mono ?_
  rintro e w1 ⟨rfl, rfl⟩
  clear HM
  go_wp2
  go_ret
  exact ⟨rfl, HW.out⟩
/-- The model's answer lies in block A, its list W below; the program's lies in block q, its list G between. -/
structure KS (w : World) (A q : Nat) (c : Int) (W G : Value) (zs ys : List B2) (v : World) : Prop where
  p : Blk v A #[.int .i64 c, W] 35
  k : Blk v q #[.int .i64 c, G] 35
  oW : OwB 0 v W zs
  wA : ∀ j, W.ownBlock = some j → j < A
  oG : OwB (A + 1) v G ys
  gq : ∀ j, G.ownBlock = some j → j < q
  l1 : A < q
  l0 : w.heap.size ≤ A
  bel : Below w.heap.size w v
theorem KS.later {w : World} {A q : Nat} {c : Int} {W G : Value} {zs ys : List B2} {v v' : World} (h : KS w A q c W G zs ys v) (hb : Below v.heap.size v v') : KS w A q c W G zs ys v' :=
  ⟨h.p.later hb, h.k.later hb, OwB.later h.oW hb, h.wA, OwB.later h.oG hb, h.gq, h.l1, h.l0, bthen h.bel hb⟩
theorem KS.markG {w : World} {A q : Nat} {c : Int} {W G : Value} {zs ys ys' : List B2} {v v' : World} (h : KS w A q c W G zs ys v) (hg : v.grownBy v' G.ownBlock) (ho : OwB (A + 1) v' G ys') : KS w A q c W G zs ys' v' := by
  have l1 := h.l1; have l0 := h.l0
  have hl := h.k.lt
  refine ⟨h.p.kept hg (fun e => ?_), h.k.kept hg (fun e => ?_), World.ownsRow.kept h.oW hg ?_, h.wA, ho, h.gq, l1, l0, h.bel.trans (below_of_grown hg (by omega) (fun j e => ?_))⟩
  · have := (OwB.lt h.oG A e).1; omega
  · have := h.gq q e; omega
  · cases hw : W.ownBlock with
    | none => exact .inl rfl
    | some j =>
      refine .inr fun e => ?_
      have h1 := h.wA j hw
      have h2 := (OwB.lt h.oG j e.symm).1
      omega
  · have := (OwB.lt h.oG j e).1; omega
theorem ks_start {w w2 w4 : World} {c : Int} {W G : Value} {zs ys : List B2} (hb2 : Below w.heap.size w w2) (hW : OwB w.heap.size w2 W zs)
    (hb4 : Below (w2.alloc (.cells #[.int .i64 c, W] 35)).heap.size (w2.alloc (.cells #[.int .i64 c, W] 35)) w4) (hG : OwB (w2.alloc (.cells #[.int .i64 c, W] 35)).heap.size w4 G ys) :
    KS w w2.heap.size w4.heap.size c W G zs ys (w4.alloc (.cells #[.int .i64 c, G] 35)) := by
  have s4 : w2.heap.size + 1 ≤ w4.heap.size := by simpa using hb4.size
  have hG' : OwB (w2.heap.size + 1) w4 G ys := by simpa using hG
  refine ⟨((Blk.new w2 _ _).later hb4).alloc _, Blk.new w4 _ _, OwB.mono (OwB.later (OwB.later (OwB.later hW (bmore (Below.refl _ _) _)) hb4) (bmore (Below.refl _ _) _)) (Nat.zero_le _), fun j e => (OwB.lt hW j e).2, OwB.later hG' (bmore (Below.refl _ _) _), fun j e => (OwB.lt hG' j e).2, by omega, hb2.size, bmore (bthen (bmore hb2 _) hb4) _⟩
end Go.Proofs.Ytodfkicmmcfkaaa.BaL
