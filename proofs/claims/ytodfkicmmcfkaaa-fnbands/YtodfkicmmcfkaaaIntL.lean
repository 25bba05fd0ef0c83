/- The laws' helpers over lists of int64: a copy holds the same numbers in new memory; what was marked is held; answers with such a list. Condition: at most 1048576 numbers. -/
import Derived.Test.YtodfkicmmcfkaaaApp
import Derived.Test.YtodfkicmmcfkaaaToInt
import Derived.RegionTactic
import Derived.WalkSpells
namespace Go.Proofs.Ytodfkicmmcfkaaa.IntL
open Go.ChangeShapes Go.WideShapes Go.ChangeAt Go.RowKit Go.Proofs.Ytodfkicmmcfkaaa.Num Go.Proofs.Ytodfkicmmcfkaaa.Sli Go.Proofs.Ytodfkicmmcfkaaa.App
open Go.Proofs.Ytodfkicmmcfkaaa.ToInt (eqInt64S_calls)

theorem infoI : (Try.prog.info? 2).map (fun i => (i.zero, i.size, i.bytes)) = some (some (.int .i64 0), 1, 8) := by kernel_rfl
/-- An owned list of numbers. -/
abbrev OwI (base : Nat) (w : World) (v : Value) (ys : List Int) : Prop := Ow .i64 2 base w v ys

/-- What the copy holds after k rounds. -/
def half (xs : List Int) (k : Nat) : List Int := xs.take k ++ List.replicate (xs.length - k) 0
theorem half_len (xs : List Int) (k : Nat) (h : k ≤ xs.length) : (half xs k).length = xs.length := by
  unfold half; simp; omega
theorem half_zero (xs : List Int) : half xs 0 = List.replicate xs.length 0 := by unfold half; simp
theorem half_all (xs : List Int) : half xs xs.length = xs := by unfold half; simp
theorem half_set (xs : List Int) (k : Nat) (h : k < xs.length) : (half xs k).set k (xs.getD k 0) = half xs (k + 1) := by
  unfold half
  apply List.ext_getElem
  · simp; omega
  · intro i h1 h2
    simp only [List.getElem_set, List.getElem_append, List.length_take, List.getElem_take, List.getElem_replicate]
    by_cases e : k = i
    · subst e; simp [h, show k < min (k + 1) xs.length by omega]
    · simp only [e, if_false]
      by_cases hi : i < k
      · simp [show i < min k xs.length by omega, show i < min (k + 1) xs.length by omega]
      · simp [show ¬ i < min k xs.length by omega, show ¬ i < min (k + 1) xs.length by omega]
theorem made_zero (n : Nat) : (madeCells #[Value.int .i64 0] n).toList = (List.replicate n (0 : Int)).map (Value.int .i64) := by
  rw [toList_madeCells_one, List.map_replicate]

set_option maxHeartbeats 1000000 in
theorem toInt64S_some (b off cap : Nat) (xs : List Int) (w : World) (hlen : xs.length ≤ 1048576) (hb : b < w.heap.size)
    (hcell : ∀ i, i < xs.length → w.cell? ⟨b, off + i, none⟩ = some (.int .i64 (xs.getD i 0))) :
    Calls Try.prog 24 #[.slice (some ⟨b, off, none⟩) xs.length cap] w fun e w' => e = .returned (.slice (some ⟨w.heap.size, 0, none⟩) xs.length xs.length) ∧ w'.ownsRow w.heap.size 2 1 (.slice (some ⟨w.heap.size, 0, none⟩) xs.length xs.length) xs.length (xs.map (Value.int .i64)) ∧ Below w.heap.size w w' := by
  obtain ⟨i0, hi, hz0, hz1, hz2⟩ := info_parts infoI
  go_enter Try.func24, Try.ntmps24
  go_wp2_with (at_make; refine wpList_make_full _ rfl _ _ 24 rfl w.heap.size 2 i0 (.int .i64 0) 1 Try.underlying24 hi hz0 hz1 .i64 .i64 _ _ xs.length rfl rfl rfl rfl ?c1 ?c2 ?c3 ?_)
  case c1 => rw [hz2]; omega
  case c2 => unfold maxLen; omega
  case c3 => exact Nat.le_refl _
  intro w1 hown hgrow
  rw [made_zero, ← half_zero] at hown
  have hbel : Below w.heap.size w w1 := (Below.refl _ _).grown hgrow (Nat.le_refl _) (fun k h => by cases h)
  clear hgrow
  go_wp2
  go_loopw [4] (fun i wr => ∃ k : Nat, k ≤ xs.length ∧ i = .int .i64 k ∧ wr.ownsRow w.heap.size 2 1 (.slice (some ⟨w.heap.size, 0, none⟩) xs.length xs.length) xs.length ((half xs k).map (Value.int .i64)) ∧ Below w.heap.size w wr) (fun i _ => xs.length - (intOf i).toNat)
  case atStart => exact ⟨0, Nat.zero_le _, rfl, hown, hbel⟩
  case round =>
    clear hown hbel
    obtain ⟨k, hk, rfl, hown, hbel⟩ := hrel
    by_cases hlt : k < xs.length
    · have hcx := (hbel.cell (p := ⟨b, off + k, none⟩) hb).trans (hcell k hlt)
      have hold : wr.cell? ⟨w.heap.size, k, none⟩ = some (.int .i64 ((half xs k).getD k 0)) := by
        rw [hown.cellAt k (by omega)]
        have := half_len xs k hk
        simp [show k < (half xs k).length by omega]
      have hfr := hown.frozenAt k
      have hst := (hown.stored k (.int .i64 (xs.getD k 0))).1
      rw [show ((half xs k).map (Value.int .i64)).set k (.int .i64 (xs.getD k 0)) = (half xs (k + 1)).map (Value.int .i64) by rw [← half_set xs k hlt, List.map_set]] at hst
      have hbel' : Below w.heap.size w (wr.setCell ⟨w.heap.size, k, none⟩ (.int .i64 (xs.getD k 0))) := hbel.setCell (p := ⟨w.heap.size, k, none⟩) (Nat.le_refl _) _
      generalize xs.getD k 0 = x at *
      generalize (half xs k).getD k 0 = y at *
      clear hown hbel hcell
      go_wp2
      go_roundw
      case rel => exact ⟨k + 1, by omega, by go_num, hst, hbel'⟩
      case measure => simp [intOf]; omega
    · have he : k = xs.length := by omega
      subst he
      rw [half_all] at hown
      go_wp2
      go_ret
      exact ⟨rfl, hown, hbel⟩

theorem toInt64S_none (a : Option Addr) (cap : Nat) (w : World) :
    Calls Try.prog 24 #[.slice a 0 cap] w fun e w' => e = .returned (.slice (some ⟨w.heap.size, 0, none⟩) 0 0) ∧ w'.ownsRow w.heap.size 2 1 (.slice (some ⟨w.heap.size, 0, none⟩) 0 0) 0 [] ∧ Below w.heap.size w w' := by
  obtain ⟨i0, hi, hz0, hz1, hz2⟩ := info_parts infoI
  go_enter Try.func24, Try.ntmps24
  go_wp2_with (at_make; refine wpList_make_full _ rfl _ _ 24 rfl w.heap.size 2 i0 (.int .i64 0) 1 Try.underlying24 hi hz0 hz1 .i64 .i64 _ _ 0 rfl rfl rfl rfl ?c1 ?c2 ?c3 ?_)
  case c1 => omega
  case c2 => unfold maxLen; omega
  case c3 => exact Nat.le_refl _
  intro w1 hown hgrow
  have hbel : Below w.heap.size w w1 := (Below.refl _ _).grown hgrow (Nat.le_refl _) (fun k h => by cases h)
  have hown' : Hid (w1.ownsRow w.heap.size 2 1 (.slice (some ⟨w.heap.size, 0, none⟩) 0 0) 0 []) := by rw [made_zero] at hown; exact hown
  clear hgrow hown
  go_wp2
  go_loopw [4] (fun i wr => i = .int .i64 0 ∧ wr = w1) (fun _ _ => 0)
  case atStart => exact ⟨rfl, rfl⟩
  case round =>
    obtain ⟨rfl, rfl⟩ := hrel
    go_wp2
    go_ret
    exact ⟨rfl, hown'.out, hbel⟩

/-- The copy holds the same bytes, in new memory. -/
theorem toInt64S_calls (v : Value) (xs : List Int) (w : World) (h : Sl .i64 w v xs) (hlen : xs.length ≤ 1048576) :
    Calls Try.prog 24 #[v] w fun e w' => ∃ g, e = .returned (.slice (some ⟨g, 0, none⟩) xs.length xs.length) ∧ OwI w.heap.size w' (.slice (some ⟨g, 0, none⟩) xs.length xs.length) xs ∧ Below w.heap.size w w' := by
  obtain ⟨a, cap, rfl, hc⟩ := h
  by_cases hne : xs = []
  · subst hne
    refine (toInt64S_none a cap w).mono ?_
    rintro e w' ⟨rfl, ho, hb⟩
    exact ⟨_, rfl, ho, hb⟩
  · obtain ⟨b, off, rfl, hlt, hcell⟩ := hc hne
    refine (toInt64S_some b off cap xs w hlen hlt hcell).mono ?_
    rintro e w' ⟨rfl, hown, hb⟩
    exact ⟨_, rfl, hown, hb⟩

theorem eqIntsResult_calls (c : Int) (v1 v2 : Value) (xs : List Int) (w : World) (h1 : Sl .i64 w v1 xs) (h2 : Sl .i64 w v2 xs) (hlen : xs.length ≤ 1048576) :
    Calls Try.prog 25 #[.agg #[.int .i64 c, v1], .agg #[.int .i64 c, v2]] w fun e w' => e = .returned (.bool true) ∧ Below w.heap.size w w' := by
  have H1 := hid h1
  have H2 := hid h2
  obtain ⟨a1, cap1, rfl, _⟩ := h1
  obtain ⟨a2, cap2, rfl, _⟩ := h2
  go_enter Try.func25, Try.ntmps25
  go_wp2_with fail
  have hb := bmore (bmore (Below.refl _ w) (.cells #[.int .i64 c, .slice a1 xs.length cap1] 28)) (.cells #[.int .i64 c, .slice a2 xs.length cap2] 28)
  refine (eqInt64S_calls _ _ xs _ (H1.out.later hb) (H2.out.later hb) hlen).mono ?_
  rintro e w' ⟨rfl, hb'⟩
  have hall := bthen hb hb'
  go_wp2
  go_ret
  exact ⟨rfl, hall⟩

/-- The marks that are written: the numbers from k on, as bytes. -/
def marks (k n : Nat) : List Int := (List.range n).map fun i => ((k + i : Nat) : Int)
theorem marks_len (k n : Nat) : (marks k n).length = n := by simp [marks]
theorem marks_get (k n i : Nat) (h : i < n) : (marks k n).getD i 0 = ((k + i : Nat) : Int) := by simp [marks, h]
/-- What a list holds once i marks are written into it. -/
def marked (k : Nat) (xs : List Int) (i : Nat) : List Int := marks k i ++ xs.drop i
theorem marked_len (k : Nat) (xs : List Int) (i : Nat) (h : i ≤ xs.length) : (marked k xs i).length = xs.length := by simp [marked, marks_len]; omega
theorem marked_all (k : Nat) (xs : List Int) : marked k xs xs.length = marks k xs.length := by simp [marked]
theorem marked_set (k : Nat) (xs : List Int) (i : Nat) (h : i < xs.length) : (marked k xs i).set i (((k + i : Nat) : Int)) = marked k xs (i + 1) := by
  apply List.ext_getElem
  · rw [List.length_set, marked_len _ _ _ (by omega), marked_len _ _ _ (by omega)]
  · intro j h1 h2
    simp only [marked, marks, List.getElem_set, List.getElem_append, List.length_map, List.length_range, List.getElem_map, List.getElem_range, List.getElem_drop]
    by_cases e : i = j
    · subst e; simp
    · simp only [e, if_false]
      by_cases hj : j < i
      · simp [hj, show j < i + 1 by omega]
      · simp only [hj, show ¬ j < i + 1 by omega, dite_false]
        congr 1; omega

set_option maxHeartbeats 1000000 in
theorem markInt64S_some (base g cap m : Nat) (xs : List Int) (w : World) (k : Nat) (h : OwI base w (.slice (some ⟨g, 0, none⟩) m cap) xs) (hm : m = xs.length) (hlen : xs.length ≤ 1048576) (hk : k ≤ 10000000) :
    Calls Try.prog 27 #[.slice (some ⟨g, 0, none⟩) m cap, .int .i64 k] w fun e w' => e = .returned (.int .i64 ((k + xs.length : Nat) : Int)) ∧ OwI base w' (.slice (some ⟨g, 0, none⟩) m cap) (marks k xs.length) ∧ w.grownBy w' (some g) := by
  have H0 : Hid (OwI base w (.slice (some ⟨g, 0, none⟩) m cap) (marked k xs 0)) := h
  clear h
  subst hm
  go_enter Try.func27, Try.ntmps27
  go_wp2
  go_loopw [1, 5] (fun q i wr => ∃ j : Nat, j ≤ xs.length ∧ i = .int .i64 j ∧ q = .int .i64 ((k + j : Nat) : Int) ∧ Hid (OwI base wr (.slice (some ⟨g, 0, none⟩) xs.length cap) (marked k xs j)) ∧ Hid (w.grownBy wr (some g))) (fun _ i _ => xs.length - (intOf i).toNat)
  case atStart => exact ⟨0, Nat.zero_le _, rfl, rfl, H0.out, grown_refl _ _⟩
  case round =>
    obtain ⟨j, hj, rfl, rfl, ho, hg⟩ := hrel
    clear H0
    by_cases hlt : j < xs.length
    · have hml := marked_len k xs j hj
      obtain ⟨hc, hf⟩ := ho.out.cellAt hml.symm j (by omega)
      have hs := ho.out.set hml.symm j (((k + j : Nat) : Int))
      rw [marked_set k xs j hlt] at hs
      have HS := hid hs
      have hcast : (((k + j : Nat) : Int)) = (k : Int) + j := by omega
      clear hs hml ho
      generalize (marked k xs j).getD j 0 = y at *
      rw [hcast] at *
      clear hcast
      go_wp2
      go_roundw
      case rel => exact ⟨j + 1, by omega, by go_num, by go_num, HS.out.1, grown_same hg.out HS.out.2⟩
      case measure => simp [intOf]; omega
    · have he : j = xs.length := by omega
      subst he
      rw [marked_all] at ho
      go_wp2
      go_ret
      exact ⟨rfl, ho.out, hg.out⟩
theorem markInt64S_none (w : World) (k : Nat) :
    Calls Try.prog 27 #[.slice none 0 0, .int .i64 k] w fun e w' => e = .returned (.int .i64 k) ∧ w' = w := by
  go_enter Try.func27, Try.ntmps27
  go_wp2
  go_loop [1, 5] (fun q i => q = .int .i64 k ∧ i = .int .i64 0) (fun _ _ => 0)
  case atStart => exact ⟨rfl, rfl⟩
  case round =>
    obtain ⟨rfl, rfl⟩ := hrel
    go_wp2
    go_ret
    exact ⟨rfl, rfl⟩
/-- Marks are written into a list of the call's own: nothing else turns. -/
theorem markInt64S_calls (base : Nat) (v : Value) (xs : List Int) (w : World) (k : Nat) (h : OwI base w v xs) (hlen : xs.length ≤ 1048576) (hk : k ≤ 10000000) :
    Calls Try.prog 27 #[v, .int .i64 k] w fun e w' => e = .returned (.int .i64 ((k + xs.length : Nat) : Int)) ∧ OwI base w' v (marks k xs.length) ∧ w.grownBy w' v.ownBlock := by
  rcases h.2 with ⟨rfl, h0⟩ | ⟨g, cap, cur, rfl, _⟩
  · have hx : xs = [] := List.eq_nil_of_length_eq_zero h0
    subst hx
    refine (markInt64S_none w k).mono ?_
    rintro e w' ⟨rfl, rfl⟩
    exact ⟨rfl, h, grown_refl _ _⟩
  · exact markInt64S_some base g cap _ xs w k h rfl hlen hk

theorem heldInt64S_some (b off cap : Nat) (n : Nat) (w : World) (k : Nat) (hlen : n ≤ 1048576) (hk : k ≤ 10000000)
    (hcell : ∀ i, i < n → w.cell? ⟨b, off + i, none⟩ = some (.int .i64 (((k + i : Nat) : Int)))) :
    Calls Try.prog 53 #[.slice (some ⟨b, off, none⟩) n cap, .int .i64 k] w fun e w' => e = .returned (.int .i64 ((k + n : Nat) : Int)) ∧ w' = w := by
  go_enter Try.func53, Try.ntmps53
  go_wp2
  go_loop [1, 5] (fun q i => ∃ j : Nat, j ≤ n ∧ i = .int .i64 j ∧ q = .int .i64 ((k + j : Nat) : Int)) (fun _ i => n - (intOf i).toNat)
  case atStart => exact ⟨0, Nat.zero_le _, rfl, rfl⟩
  case round =>
    obtain ⟨j, hj, rfl, rfl⟩ := hrel
    have hcast : (((k + j : Nat) : Int)) = (k : Int) + j := by omega
    by_cases hlt : j < n
    · have hc := hcell j hlt
      clear hcell
      rw [hcast] at *
      clear hcast
      go_wp2
      go_round
      case rel => exact ⟨j + 1, by omega, by go_num, by go_num⟩
      case measure => simp [intOf]; omega
    · have he : j = n := by omega
      subst he
      clear hcell
      go_wp2
      go_ret
      exact ⟨rfl, rfl⟩
theorem heldInt64S_none (a : Option Addr) (cap : Nat) (w : World) (k : Nat) :
    Calls Try.prog 53 #[.slice a 0 cap, .int .i64 k] w fun e w' => e = .returned (.int .i64 k) ∧ w' = w := by
  go_enter Try.func53, Try.ntmps53
  go_wp2
  go_loop [1, 5] (fun q i => q = .int .i64 k ∧ i = .int .i64 0) (fun _ _ => 0)
  case atStart => exact ⟨rfl, rfl⟩
  case round =>
    obtain ⟨rfl, rfl⟩ := hrel
    go_wp2
    go_ret
    exact ⟨rfl, rfl⟩
theorem heldInt64S_calls (v : Value) (n : Nat) (w : World) (k : Nat) (h : Sl .i64 w v (marks k n)) (hlen : n ≤ 1048576) (hk : k ≤ 10000000) :
    Calls Try.prog 53 #[v, .int .i64 k] w fun e w' => e = .returned (.int .i64 ((k + n : Nat) : Int)) ∧ w' = w := by
  obtain ⟨a, cap, rfl, hc⟩ := h
  rw [marks_len]
  by_cases hn : n = 0
  · subst hn
    exact heldInt64S_none a cap w k
  · obtain ⟨b, off, rfl, hlt, hcell⟩ := hc (by intro e; have := marks_len k n; rw [e] at this; simp at this; omega)
    refine heldInt64S_some b off cap n w k hlen hk (fun i hi => ?_)
    rw [hcell i (by rw [marks_len]; exact hi), marks_get k n i hi]

theorem markIntsResult_calls (base : Nat) (c : Int) (v : Value) (xs : List Int) (w : World) (k : Nat) (h : OwI base w v xs) (hlen : xs.length ≤ 1048576) (hk : k ≤ 10000000) :
    Calls Try.prog 28 #[.agg #[.int .i64 c, v], .int .i64 k] w fun e w' => e = .returned (.int .i64 ((k + xs.length : Nat) : Int)) ∧ OwI base w' v (marks k xs.length) ∧ w.grownBy w' v.ownBlock := by
  have H := hid h
  obtain ⟨a, cap, rfl, _⟩ := h.sl
  clear h
  go_enter Try.func28, Try.ntmps28
  go_wp2_with fail
  refine (markInt64S_calls base _ xs _ k (H.out.alloc _) hlen hk).mono ?_
  rintro e w' ⟨rfl, ho, hg⟩
  have HO := hid ho
  have HG := hid hg
  clear ho hg
  go_wp2
  go_ret
  refine ⟨rfl, HO.out, ⟨HG.out.os, HG.out.tape, HG.out.output, Nat.le_trans (by simp) HG.out.size, fun j hj hne => ?_⟩⟩
  rw [HG.out.block j (by simp; omega) hne, Below.heap_alloc _ _ j hj]

theorem heldIntsResult_calls (c : Int) (v : Value) (n : Nat) (w : World) (k : Nat) (h : Sl .i64 w v (marks k n)) (hlen : n ≤ 1048576) (hk : k ≤ 10000000) :
    Calls Try.prog 29 #[.agg #[.int .i64 c, v], .int .i64 k] w fun e w' => e = .returned (.int .i64 ((k + n : Nat) : Int)) ∧ Below w.heap.size w w' := by
  have H := hid h
  obtain ⟨a, cap, rfl, _⟩ := h
  go_enter Try.func29, Try.ntmps29
  go_wp2_with fail
  have hb := bmore (Below.refl _ w) (.cells #[.int .i64 c, .slice a (marks k n).length cap] 28)
  refine (heldInt64S_calls _ n _ k (H.out.later hb) hlen hk).mono ?_
  rintro e w' ⟨rfl, rfl⟩
  have hcast : (((k + n : Nat) : Int)) = (k : Int) + n := by omega
  have hpos : ¬ ((k : Int) + n < 0) := by omega
  rw [hcast] at *
  clear hcast
  go_wp2
  go_ret
  exact ⟨rfl, hb⟩

end Go.Proofs.Ytodfkicmmcfkaaa.IntL
