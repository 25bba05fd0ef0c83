/- SizeFault and SamplesFault, the program's and the model's: both return the same code at every size and list. -/
import Derived.Test.YtodfkicmmcfkaaaSli
import Derived.Test.YtodfkicmmcfkaaaDiv
import Derived.Laws.Rows
import Derived.Laws.Tables
import Derived.Laws.CopyOwn
namespace Go.Proofs.Ytodfkicmmcfkaaa.Samp
open Go.ChangeShapes Go.WideShapes Go.ChangeAt Go.RowKit Go.Proofs.Ytodfkicmmcfkaaa.Num Go.Proofs.Ytodfkicmmcfkaaa.Sli Go.Proofs.Ytodfkicmmcfkaaa.Div

/-- The code of a size. -/
def szF (s : Int) : Int := if s = 4 ∨ s = 8 ∨ s = 16 then 0 else 3
theorem szF_no {s : Int} (h4 : (s == 4) = false) (h8 : (s == 8) = false) (h16 : (s == 16) = false) : szF s = 3 := by
  simp at h4 h8 h16; unfold szF; rw [if_neg (by omega)]

theorem implSizeFault_calls (s : Int) (w : World) :
    Calls Try.prog 42 #[.int .i64 s] w fun e w' => e = .returned (.int .i64 (szF s)) ∧ w' = w := by
  cases h4 : (s == 4)
  · cases h8 : (s == 8)
    · cases h16 : (s == 16)
      · have H : Hid (szF s = 3) := szF_no h4 h8 h16
        go_enter Try.func42, Try.ntmps42
        go_wp2
        go_ret
        exact ⟨ret_int H.out.symm, rfl⟩
      · simp at h16; subst h16
        go_enter Try.func42, Try.ntmps42
        go_wp2
        go_ret
        exact ⟨rfl, rfl⟩
    · simp at h8; subst h8
      go_enter Try.func42, Try.ntmps42
      go_wp2
      go_ret
      exact ⟨rfl, rfl⟩
  · simp at h4; subst h4
    go_enter Try.func42, Try.ntmps42
    go_wp2
    go_ret
    exact ⟨rfl, rfl⟩

theorem specSizeFault_calls (s : Int) (w : World) :
    Calls Try.prog 16 #[.int .i64 s] w fun e w' => e = .returned (.int .i64 (szF s)) ∧ w' = w := by
  cases h4 : (s == 4)
  · cases h8 : (s == 8)
    · cases h16 : (s == 16)
      · have H : Hid (szF s = 3) := szF_no h4 h8 h16
        have n4 : (s != 4) = true := by simp at h4 ⊢; exact h4
        have n8 : (s != 8) = true := by simp at h8 ⊢; exact h8
        have n16 : (s != 16) = true := by simp at h16 ⊢; exact h16
        go_enter Try.func16, Try.ntmps16
        go_wp2
        go_ret
        exact ⟨ret_int H.out.symm, rfl⟩
      · simp at h16; subst h16
        go_enter Try.func16, Try.ntmps16
        go_wp2
        go_ret
        exact ⟨rfl, rfl⟩
    · simp at h8; subst h8
      go_enter Try.func16, Try.ntmps16
      go_wp2
      go_ret
      exact ⟨rfl, rfl⟩
  · simp at h4; subst h4
    go_enter Try.func16, Try.ntmps16
    go_wp2
    go_ret
    exact ⟨rfl, rfl⟩

def half16 (xs : List Int) (k : Nat) : List Int := xs.take k ++ List.replicate (16 - k) 0
def sampB (v : Int) : Bool := inB (-32768) 32767 v

theorem allB_no {B : Int → Bool} {ys : List Int} {k : Nat} (hk : k < ys.length) (hx : B (ys.getD k 0) = false) : ys.all B = false := by
  rw [List.getD_eq_getElem?_getD, List.getElem?_eq_getElem hk, Option.getD_some] at hx
  rw [List.all_eq_false]
  exact ⟨ys[k], List.getElem_mem hk, by rw [hx]; simp⟩
theorem takeB_snoc {B : Int → Bool} {ys : List Int} {k : Nat} (hk : k < ys.length) (ha : (ys.take k).all B = true) (hx : B (ys.getD k 0) = true) : (ys.take (k + 1)).all B = true := by
  rw [List.getD_eq_getElem?_getD, List.getElem?_eq_getElem hk, Option.getD_some] at hx
  rw [List.take_succ_eq_append_getElem hk, List.all_append, ha]; simp only [List.all_cons, List.all_nil, hx]; rfl
end Go.Proofs.Ytodfkicmmcfkaaa.Samp
