/- What FnTens draws: a number, a list of numbers, a size and a list. Each list is new memory. -/
import Derived.Test.YtodfkicmmcfkaaaSamples
namespace Go.Proofs.Ytodfkicmmcfkaaa.Draws
open Go.ChangeShapes Go.WideShapes Go.ChangeAt Go.RowKit Go.Proofs.Ytodfkicmmcfkaaa.Num Go.Proofs.Ytodfkicmmcfkaaa.Sli Go.Proofs.Ytodfkicmmcfkaaa.Src Go.Proofs.Ytodfkicmmcfkaaa.Lists Go.Proofs.Ytodfkicmmcfkaaa.Samples

theorem own_cell {base : Nat} {w : World} {g cap : Nat} {ys : List Int} (h : Lists.Own base w g cap ys) (i : Nat) (hi : i < ys.length) : w.cell? ⟨g, i, none⟩ = some (.int .i64 (ys.getD i 0)) := by
  have h' : w.ownsRow base 2 1 (.slice (some ⟨g, 0, none⟩) ys.length cap) ys.length (ys.map (Value.int .i64)) := h
  rw [h'.cellAt i (by omega)]
  simp [hi]
theorem own_frozen {base : Nat} {w : World} {g cap : Nat} {ys : List Int} (h : Lists.Own base w g cap ys) (i : Nat) : w.frozen? ⟨g, i, none⟩ = false := by
  have h' : w.ownsRow base 2 1 (.slice (some ⟨g, 0, none⟩) ys.length cap) ys.length (ys.map (Value.int .i64)) := h
  exact h'.frozenAt i
theorem own_set {base : Nat} {w : World} {g cap : Nat} {ys : List Int} (h : Lists.Own base w g cap ys) (i : Nat) (x : Int) : Lists.Own base (w.setCell ⟨g, i, none⟩ (.int .i64 x)) g cap (ys.set i x) ∧ w.grownBy (w.setCell ⟨g, i, none⟩ (.int .i64 x)) (some g) := by
  have h' : w.ownsRow base 2 1 (.slice (some ⟨g, 0, none⟩) ys.length cap) ys.length (ys.map (Value.int .i64)) := h
  have := h'.stored i (.int .i64 x)
  refine ⟨?_, this.2⟩
  unfold Lists.Own
  rw [List.length_set, List.map_set]
  exact this.1


theorem l1BentSize_calls (w0 w : World) (g : Nat) (a : Option Addr) (cap : Nat) (bs : List Int) (at' : Nat) (h : Src w0 w g a cap bs at') (hat : at' ≤ 100000) :
    Calls Try.prog 31 #[.pointer (some ⟨g, 0, none⟩)] w fun e w' => ∃ r : Int, e = .returned (.int .i64 r) ∧ r ∈ [4, 8, 16, 8, 4, 8, 16, 8, 4, 8, 16, 8, 0, 5, 32] ∧ Src w0 w' g a cap bs (at' + 1) ∧ w.grownBy w' (some g) := by
  have H := hid h
  have hgw := src_lt h
  clear h
  go_enter Try.func31, Try.ntmps31
  go_wp2_with fail
  refine (l1Pick_lit w0 _ g a cap bs _ 15 2 [4, 8, 16, 8, 4, 8, 16, 8, 4, 8, 16, 8, 0, 5, 32] _ H.out (by omega) rfl rfl (by omega) (by omega)).mono ?_
  rintro e w2 ⟨r, rfl, hr, hs2, hg2⟩
  have HR := hid hr
  have HS := hid hs2
  have HG := hid (grown_then (grown_alloc w _ (some g)) hg2 (fun j e => Or.inl (by simpa using e.symm)))
  clear hr hs2 hg2
  go_wp2
  go_ret
  exact ⟨_, rfl, HR.out, HS.out, HG.out⟩

end Go.Proofs.Ytodfkicmmcfkaaa.Draws
