/- The laws' helpers over lists of int64: a copy holds the same numbers in new memory; what was marked is held; answers with such a list. Condition: at most 1048576 numbers. -/
import Derived.Test.YtkbkklhofffimaaApp
import Derived.Test.YtkbkklhofffimaaToInt
import Derived.RegionTactic
import Derived.WalkSpells
namespace Go.Proofs.Ytkbkklhofffimaa.IntL
open Go.ChangeShapes Go.WideShapes Go.ChangeAt Go.RowKit Go.Proofs.Ytkbkklhofffimaa.Num Go.Proofs.Ytkbkklhofffimaa.Sli Go.Proofs.Ytkbkklhofffimaa.App
open Go.Proofs.Ytkbkklhofffimaa.ToInt (eqInt64S_calls)

theorem infoI : (Try.prog.info? 2).map (fun i => (i.zero, i.size, i.bytes)) = some (some (.int .i64 0), 1, 8) := by kernel_rfl
/-- An owned list of numbers. -/
abbrev OwI (base : Nat) (w : World) (v : Value) (ys : List Int) : Prop := Ow .i64 2 base w v ys


theorem eqIntsResult_calls (c : Int) (v1 v2 : Value) (xs : List Int) (w : World) (h1 : Sl .i64 w v1 xs) (h2 : Sl .i64 w v2 xs) (hlen : xs.length ≤ 1048576) :
    Calls Try.prog 15 #[.agg #[.int .i64 c, v1], .agg #[.int .i64 c, v2]] w fun e w' => e = .returned (.bool true) ∧ Below w.heap.size w w' := by
  have H1 := hid h1
  have H2 := hid h2
  obtain ⟨a1, cap1, rfl, _⟩ := h1
  obtain ⟨a2, cap2, rfl, _⟩ := h2
  go_enter Try.func15, Try.ntmps15
  go_wp2_with fail
  have hb := bmore (bmore (Below.refl _ w) (.cells #[.int .i64 c, .slice a1 xs.length cap1] 28)) (.cells #[.int .i64 c, .slice a2 xs.length cap2] 28)
  refine (eqInt64S_calls _ _ xs _ (H1.out.later hb) (H2.out.later hb) hlen).mono ?_
  rintro e w' ⟨rfl, hb'⟩
  have hall := bthen hb hb'
  go_wp2
  go_ret
  exact ⟨rfl, hall⟩

/-- The marks that are written: the numbers from k on, as bytes. -/
def marks (k n : Nat) : List Int := (List.range n).map fun i => ((k + i : Nat) : Int)
theorem marks_len (k n : Nat) : (marks k n).length = n := by simp [marks]
theorem marks_get (k n i : Nat) (h : i < n) : (marks k n).getD i 0 = ((k + i : Nat) : Int) := by simp [marks, h]
/-- What a list holds once i marks are written into it. -/
def marked (k : Nat) (xs : List Int) (i : Nat) : List Int := marks k i ++ xs.drop i
theorem marked_len (k : Nat) (xs : List Int) (i : Nat) (h : i ≤ xs.length) : (marked k xs i).length = xs.length := by simp [marked, marks_len]; omega
theorem marked_all (k : Nat) (xs : List Int) : marked k xs xs.length = marks k xs.length := by simp [marked]
theorem marked_set (k : Nat) (xs : List Int) (i : Nat) (h : i < xs.length) : (marked k xs i).set i (((k + i : Nat) : Int)) = marked k xs (i + 1) := by
  apply List.ext_getElem
  · rw [List.length_set, marked_len _ _ _ (by omega), marked_len _ _ _ (by omega)]
  · intro j h1 h2
    simp only [marked, marks, List.getElem_set, List.getElem_append, List.length_map, List.length_range, List.getElem_map, List.getElem_range, List.getElem_drop]
    by_cases e : i = j
    · subst e; simp
    · simp only [e, if_false]
      by_cases hj : j < i
      · simp [hj, show j < i + 1 by omega]
      · simp only [hj, show ¬ j < i + 1 by omega, dite_false]
        congr 1; omega

set_option maxHeartbeats 1000000 in
theorem markInt64S_some (base g cap m : Nat) (xs : List Int) (w : World) (k : Nat) (h : OwI base w (.slice (some ⟨g, 0, none⟩) m cap) xs) (hm : m = xs.length) (hlen : xs.length ≤ 1048576) (hk : k ≤ 10000000) :
    Calls Try.prog 29 #[.slice (some ⟨g, 0, none⟩) m cap, .int .i64 k] w fun e w' => e = .returned (.int .i64 ((k + xs.length : Nat) : Int)) ∧ OwI base w' (.slice (some ⟨g, 0, none⟩) m cap) (marks k xs.length) ∧ w.grownBy w' (some g) := by
  have H0 : Hid (OwI base w (.slice (some ⟨g, 0, none⟩) m cap) (marked k xs 0)) := h
  clear h
  subst hm
  go_enter Try.func29, Try.ntmps29
  go_wp2
  go_loopw [1, 5] (fun q i wr => ∃ j : Nat, j ≤ xs.length ∧ i = .int .i64 j ∧ q = .int .i64 ((k + j : Nat) : Int) ∧ Hid (OwI base wr (.slice (some ⟨g, 0, none⟩) xs.length cap) (marked k xs j)) ∧ Hid (w.grownBy wr (some g))) (fun _ i _ => xs.length - (intOf i).toNat)
  case atStart => exact ⟨0, Nat.zero_le _, rfl, rfl, H0.out, grown_refl _ _⟩
  case round =>
    obtain ⟨j, hj, rfl, rfl, ho, hg⟩ := hrel
    clear H0
    by_cases hlt : j < xs.length
    · have hml := marked_len k xs j hj
      obtain ⟨hc, hf⟩ := ho.out.cellAt hml.symm j (by omega)
      have hs := ho.out.set hml.symm j (((k + j : Nat) : Int))
      rw [marked_set k xs j hlt] at hs
      have HS := hid hs
      have hcast : (((k + j : Nat) : Int)) = (k : Int) + j := by omega
      clear hs hml ho
      generalize (marked k xs j).getD j 0 = y at *
      rw [hcast] at *
      clear hcast
      go_wp2
      go_roundw
      case rel => exact ⟨j + 1, by omega, by go_num, by go_num, HS.out.1, grown_same hg.out HS.out.2⟩
      case measure => simp [intOf]; omega
    · have he : j = xs.length := by omega
      subst he
      rw [marked_all] at ho
      go_wp2
      go_ret
      exact ⟨rfl, ho.out, hg.out⟩
theorem markInt64S_none (w : World) (k : Nat) :
    Calls Try.prog 29 #[.slice none 0 0, .int .i64 k] w fun e w' => e = .returned (.int .i64 k) ∧ w' = w := by
  go_enter Try.func29, Try.ntmps29
  go_wp2
  go_loop [1, 5] (fun q i => q = .int .i64 k ∧ i = .int .i64 0) (fun _ _ => 0)
  case atStart => exact ⟨rfl, rfl⟩
  case round =>
    obtain ⟨rfl, rfl⟩ := hrel
    go_wp2
    go_ret
    exact ⟨rfl, rfl⟩
/-- Marks are written into a list of the call's own: nothing else turns. -/
theorem markInt64S_calls (base : Nat) (v : Value) (xs : List Int) (w : World) (k : Nat) (h : OwI base w v xs) (hlen : xs.length ≤ 1048576) (hk : k ≤ 10000000) :
    Calls Try.prog 29 #[v, .int .i64 k] w fun e w' => e = .returned (.int .i64 ((k + xs.length : Nat) : Int)) ∧ OwI base w' v (marks k xs.length) ∧ w.grownBy w' v.ownBlock := by
  rcases h.2 with ⟨rfl, h0⟩ | ⟨g, cap, cur, rfl, _⟩
  · have hx : xs = [] := List.eq_nil_of_length_eq_zero h0
    subst hx
    refine (markInt64S_none w k).mono ?_
    rintro e w' ⟨rfl, rfl⟩
    exact ⟨rfl, h, grown_refl _ _⟩
  · exact markInt64S_some base g cap _ xs w k h rfl hlen hk

theorem heldInt64S_some (b off cap : Nat) (n : Nat) (w : World) (k : Nat) (hlen : n ≤ 1048576) (hk : k ≤ 10000000)
    (hcell : ∀ i, i < n → w.cell? ⟨b, off + i, none⟩ = some (.int .i64 (((k + i : Nat) : Int)))) :
    Calls Try.prog 30 #[.slice (some ⟨b, off, none⟩) n cap, .int .i64 k] w fun e w' => e = .returned (.int .i64 ((k + n : Nat) : Int)) ∧ w' = w := by
  go_enter Try.func30, Try.ntmps30
  go_wp2
  go_loop [1, 5] (fun q i => ∃ j : Nat, j ≤ n ∧ i = .int .i64 j ∧ q = .int .i64 ((k + j : Nat) : Int)) (fun _ i => n - (intOf i).toNat)
  case atStart => exact ⟨0, Nat.zero_le _, rfl, rfl⟩
  case round =>
    obtain ⟨j, hj, rfl, rfl⟩ := hrel
    have hcast : (((k + j : Nat) : Int)) = (k : Int) + j := by omega
    by_cases hlt : j < n
    · have hc := hcell j hlt
      clear hcell
      rw [hcast] at *
      clear hcast
      go_wp2
      go_round
      case rel => exact ⟨j + 1, by omega, by go_num, by go_num⟩
      case measure => simp [intOf]; omega
    · have he : j = n := by omega
      subst he
      clear hcell
      go_wp2
      go_ret
      exact ⟨rfl, rfl⟩
theorem heldInt64S_none (a : Option Addr) (cap : Nat) (w : World) (k : Nat) :
    Calls Try.prog 30 #[.slice a 0 cap, .int .i64 k] w fun e w' => e = .returned (.int .i64 k) ∧ w' = w := by
  go_enter Try.func30, Try.ntmps30
  go_wp2
  go_loop [1, 5] (fun q i => q = .int .i64 k ∧ i = .int .i64 0) (fun _ _ => 0)
  case atStart => exact ⟨rfl, rfl⟩
  case round =>
    obtain ⟨rfl, rfl⟩ := hrel
    go_wp2
    go_ret
    exact ⟨rfl, rfl⟩
theorem heldInt64S_calls (v : Value) (n : Nat) (w : World) (k : Nat) (h : Sl .i64 w v (marks k n)) (hlen : n ≤ 1048576) (hk : k ≤ 10000000) :
    Calls Try.prog 30 #[v, .int .i64 k] w fun e w' => e = .returned (.int .i64 ((k + n : Nat) : Int)) ∧ w' = w := by
  obtain ⟨a, cap, rfl, hc⟩ := h
  rw [marks_len]
  by_cases hn : n = 0
  · subst hn
    exact heldInt64S_none a cap w k
  · obtain ⟨b, off, rfl, hlt, hcell⟩ := hc (by intro e; have := marks_len k n; rw [e] at this; simp at this; omega)
    refine heldInt64S_some b off cap n w k hlen hk (fun i hi => ?_)
    rw [hcell i (by rw [marks_len]; exact hi), marks_get k n i hi]

theorem markIntsResult_calls (base : Nat) (c : Int) (v : Value) (xs : List Int) (w : World) (k : Nat) (h : OwI base w v xs) (hlen : xs.length ≤ 1048576) (hk : k ≤ 10000000) :
    Calls Try.prog 16 #[.agg #[.int .i64 c, v], .int .i64 k] w fun e w' => e = .returned (.int .i64 ((k + xs.length : Nat) : Int)) ∧ OwI base w' v (marks k xs.length) ∧ w.grownBy w' v.ownBlock := by
  have H := hid h
  obtain ⟨a, cap, rfl, _⟩ := h.sl
  clear h
  go_enter Try.func16, Try.ntmps16
  go_wp2_with fail
  refine (markInt64S_calls base _ xs _ k (H.out.alloc _) hlen hk).mono ?_
  rintro e w' ⟨rfl, ho, hg⟩
  have HO := hid ho
  have HG := hid hg
  clear ho hg
  go_wp2
  go_ret
  refine ⟨rfl, HO.out, ⟨HG.out.os, HG.out.tape, HG.out.output, Nat.le_trans (by simp) HG.out.size, fun j hj hne => ?_⟩⟩
  rw [HG.out.block j (by simp; omega) hne, Below.heap_alloc _ _ j hj]

theorem heldIntsResult_calls (c : Int) (v : Value) (n : Nat) (w : World) (k : Nat) (h : Sl .i64 w v (marks k n)) (hlen : n ≤ 1048576) (hk : k ≤ 10000000) :
    Calls Try.prog 17 #[.agg #[.int .i64 c, v], .int .i64 k] w fun e w' => e = .returned (.int .i64 ((k + n : Nat) : Int)) ∧ Below w.heap.size w w' := by
  have H := hid h
  obtain ⟨a, cap, rfl, _⟩ := h
  go_enter Try.func17, Try.ntmps17
  go_wp2_with fail
  have hb := bmore (Below.refl _ w) (.cells #[.int .i64 c, .slice a (marks k n).length cap] 28)
  refine (heldInt64S_calls _ n _ k (H.out.later hb) hlen hk).mono ?_
  rintro e w' ⟨rfl, rfl⟩
  have hcast : (((k + n : Nat) : Int)) = (k : Int) + n := by omega
  have hpos : ¬ ((k : Int) + n < 0) := by omega
  rw [hcast] at *
  clear hcast
  go_wp2
  go_ret
  exact ⟨rfl, hb⟩

end Go.Proofs.Ytkbkklhofffimaa.IntL
