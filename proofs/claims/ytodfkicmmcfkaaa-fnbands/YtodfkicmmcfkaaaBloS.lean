/- HalveList, UniteHalves, SpreadBlock and GatherBlock of the model: what they return at every argument of at most 1048576 numbers. -/
import Derived.Test.YtodfkicmmcfkaaaSprS
import Derived.Test.YtodfkicmmcfkaaaGatS
import Derived.Test.YtodfkicmmcfkaaaBlk
namespace Go.Proofs.Ytodfkicmmcfkaaa.BloS
open Go.ChangeShapes Go.WideShapes Go.ChangeAt Go.RowKit Go.Proofs.Ytodfkicmmcfkaaa.Num Go.Proofs.Ytodfkicmmcfkaaa.Sli Go.Proofs.Ytodfkicmmcfkaaa.App Go.Proofs.Ytodfkicmmcfkaaa.Div Go.Proofs.Ytodfkicmmcfkaaa.Samp Go.Proofs.Ytodfkicmmcfkaaa.Blk Go.Proofs.Ytodfkicmmcfkaaa.TurM Go.Proofs.Ytodfkicmmcfkaaa.HalM Go.Proofs.Ytodfkicmmcfkaaa.IntL Go.Proofs.Ytodfkicmmcfkaaa.IntA Go.Proofs.Ytodfkicmmcfkaaa.HalS Go.Proofs.Ytodfkicmmcfkaaa.UniS Go.Proofs.Ytodfkicmmcfkaaa.SprS Go.Proofs.Ytodfkicmmcfkaaa.GatS

theorem ow_nil (base : Nat) (w : World) : OwI base w (.slice none 0 0) [] := ⟨rfl, .inl ⟨rfl, rfl⟩⟩
/-- What lies above block R stays while R turns. -/
theorem Ow.over {k : IntKind} {t base R : Nat} {w w' : World} {v : Value} {ys : List Int} (h : Ow k t base w v ys) (hR : R < base) (hg : w.grownBy w' (some R)) : Ow k t base w' v ys :=
  h.kept hg (fun j e => by cases e; exact hR)
theorem grown_set2 (w : World) (R : Nat) (x y : Value) : w.grownBy ((w.setCell ⟨R, 0, none⟩ x).setCell ⟨R, 1, none⟩ y) (some R) := grown_same (grown_set w R 0 x) (grown_set _ R 1 y)
theorem grown_set3 (w : World) (R : Nat) (x y z : Value) : w.grownBy (((w.setCell ⟨R, 0, none⟩ x).setCell ⟨R, 1, none⟩ y).setCell ⟨R, 2, none⟩ z) (some R) := grown_same (grown_set2 w R x y) (grown_set _ R 2 z)
theorem sz_len {n : Nat} : (szF (n : Int) = 0) ↔ is3 n = true := by
  unfold szF is3
  by_cases h : n = 4 ∨ n = 8 ∨ n = 16
  · rw [if_pos (by omega), decide_eq_true h]; simp
  · rw [if_neg (by omega), decide_eq_false h]; simp

/-- The code of a block's list. -/
def akC (M : Int) (l : List Int) : Int := if is3 l.length = true then (if l.all (inB (-M) M) = true then 0 else 3) else 2
theorem l6Ask_calls (v : Value) (l : List Int) (M : Int) (w : World) (h : Sl .i64 w v l) (hm : l.length ≤ 1048576) (h0 : 0 ≤ M) (h1 : M ≤ 1000000000) :
    Calls Try.prog 61 #[v, .int .i64 M] w fun e w' => e = .returned (.int .i64 (akC M l)) ∧ w' = w := by
  have HS := hid (specSizeFault_calls (l.length : Int))
  have HA := hid (fun W (hW : Sl .i64 W v l) => all_calls v l (-M) M W hW hm)
  have Hs := hid h
  obtain ⟨a, cap, rfl, _⟩ := h
  cases h3 : is3 l.length
  · have hz : szF (l.length : Int) = 3 := by
      rcases sz_03 (l.length : Int) with e | e
      · rw [sz_len.1 e] at h3; cases h3
      · exact e
    have HE : Hid (akC M l = 2) := by show _ = _; unfold akC; rw [if_neg (by rw [h3]; simp)]
    rw [hz] at HS
    clear hz h3 HA
    go_enter Try.func61, Try.ntmps61
    go_wp2_with (go_at_call 16; refine (HS.out _).mono ?_; rintro e w' ⟨rfl, rfl⟩)
    go_ret
    exact ⟨by rw [HE.out]; rfl, rfl⟩
  · have hz : szF (l.length : Int) = 0 := sz_len.2 h3
    rw [hz] at HS
    cases ha : l.all (inB (-M) M)
    · have HE : Hid (akC M l = 3) := by show _ = _; unfold akC; rw [if_pos h3, if_neg (by rw [ha]; simp)]
      rw [ha] at HA
      clear hz h3 ha
      go_enter Try.func61, Try.ntmps61
      go_wp2_with (first | (go_at_call 16; refine (HS.out _).mono ?_; rintro e w' ⟨rfl, rfl⟩) | (go_at_call 72; refine (HA.out _ Hs.out).mono ?_; rintro e w' ⟨rfl, rfl⟩))
      go_ret
      exact ⟨by rw [HE.out]; rfl, rfl⟩
    · have HE : Hid (akC M l = 0) := by show _ = _; unfold akC; rw [if_pos h3, if_pos ha]
      rw [ha] at HA
      clear hz h3 ha
      go_enter Try.func61, Try.ntmps61
      go_wp2_with (first | (go_at_call 16; refine (HS.out _).mono ?_; rintro e w' ⟨rfl, rfl⟩) | (go_at_call 72; refine (HA.out _ Hs.out).mono ?_; rintro e w' ⟨rfl, rfl⟩))
      go_ret
      exact ⟨by rw [HE.out]; rfl, rfl⟩
theorem ask_sb (l : List Int) : akC 65536 l = sbC l := rfl
theorem ask_gb (l : List Int) : akC 16777216 l = gbC l := rfl
end Go.Proofs.Ytodfkicmmcfkaaa.BloS
