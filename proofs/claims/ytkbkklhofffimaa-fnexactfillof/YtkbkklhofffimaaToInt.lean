/- The copy that the laws make of a list of int64 holds the same numbers, in new memory; two slices that hold the same numbers are told alike. Condition: at most 1048576 numbers. -/
import Derived.Test.YtkbkklhofffimaaSli
import Derived.RegionTactic
namespace Go.Proofs.Ytkbkklhofffimaa.ToInt
open Go.ChangeShapes Go.WideShapes Go.ChangeAt Go.RowKit Go.Proofs.Ytkbkklhofffimaa.Num Go.Proofs.Ytkbkklhofffimaa.Sli


theorem eqInt64S_some (b1 off1 cap1 b2 off2 cap2 : Nat) (xs : List Int) (w : World) (hlen : xs.length ≤ 1048576) (hb1 : b1 < w.heap.size) (hb2 : b2 < w.heap.size)
    (h1 : ∀ i, i < xs.length → w.cell? ⟨b1, off1 + i, none⟩ = some (.int .i64 (xs.getD i 0))) (h2 : ∀ i, i < xs.length → w.cell? ⟨b2, off2 + i, none⟩ = some (.int .i64 (xs.getD i 0))) :
    Calls Try.prog 28 #[.slice (some ⟨b1, off1, none⟩) xs.length cap1, .slice (some ⟨b2, off2, none⟩) xs.length cap2] w fun e w' => e = .returned (.bool true) ∧ Below w.heap.size w w' := by
  go_enter Try.func28, Try.ntmps28
  go_wp2
  go_loopw [5] (fun i wr => ∃ k : Nat, k ≤ xs.length ∧ i = .int .i64 k ∧ Below w.heap.size w wr) (fun i _ => xs.length - (intOf i).toNat)
  case atStart => exact ⟨0, Nat.zero_le _, rfl, Below.refl _ _⟩
  case round =>
    obtain ⟨k, hk, rfl, hbel⟩ := hrel
    by_cases hlt : k < xs.length
    · have c1 := (hbel.cell (p := ⟨b1, off1 + k, none⟩) hb1).trans (h1 k hlt)
      have c2 := (hbel.cell (p := ⟨b2, off2 + k, none⟩) hb2).trans (h2 k hlt)
      generalize xs.getD k 0 = x at *
      have hbel' := hbel.drew
      clear h1 h2 hbel
      go_wp2
      go_region
      all_goals go_wp2
      all_goals go_roundw
      case rel => exact ⟨k + 1, by omega, by go_num, hbel'⟩
      case measure => simp [intOf]; omega
    · go_wp2
      go_ret
      exact ⟨rfl, hbel⟩

theorem eqInt64S_none (a1 a2 : Option Addr) (cap1 cap2 : Nat) (w : World) :
    Calls Try.prog 28 #[.slice a1 0 cap1, .slice a2 0 cap2] w fun e w' => e = .returned (.bool true) ∧ Below w.heap.size w w' := by
  go_enter Try.func28, Try.ntmps28
  go_wp2
  go_loop [5] (fun i => i = .int .i64 0) (fun _ => 0)
  case atStart => rfl
  case round =>
    obtain rfl := hrel
    go_wp2
    go_ret
    exact ⟨rfl, Below.refl _ _⟩

/-- Two slices that hold the same numbers are told alike. -/
theorem eqInt64S_calls (v1 v2 : Value) (xs : List Int) (w : World) (h1 : Sl .i64 w v1 xs) (h2 : Sl .i64 w v2 xs) (hlen : xs.length ≤ 1048576) :
    Calls Try.prog 28 #[v1, v2] w fun e w' => e = .returned (.bool true) ∧ Below w.heap.size w w' := by
  obtain ⟨a1, cap1, rfl, hc1⟩ := h1
  obtain ⟨a2, cap2, rfl, hc2⟩ := h2
  by_cases hne : xs = []
  · subst hne
    exact eqInt64S_none a1 a2 cap1 cap2 w
  · obtain ⟨b1, off1, rfl, hlt1, hcell1⟩ := hc1 hne
    obtain ⟨b2, off2, rfl, hlt2, hcell2⟩ := hc2 hne
    exact eqInt64S_some b1 off1 cap1 b2 off2 cap2 xs w hlen hlt1 hlt2 hcell1 hcell2
end Go.Proofs.Ytkbkklhofffimaa.ToInt
