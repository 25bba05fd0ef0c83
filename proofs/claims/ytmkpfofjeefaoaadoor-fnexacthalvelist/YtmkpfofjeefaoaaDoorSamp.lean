/- SizeFault and SamplesFault, the program's and the model's: both return the same code at every size and list. -/
import Derived.Test.YtmkpfofjeefaoaaDoorSli
import Derived.Test.YtmkpfofjeefaoaaDoorDiv
import Derived.Laws.Rows
import Derived.Laws.Tables
import Derived.Laws.CopyOwn
namespace Go.Proofs.YtmkpfofjeefaoaaDoor.Samp
open Go.ChangeShapes Go.WideShapes Go.ChangeAt Go.RowKit Go.Proofs.YtmkpfofjeefaoaaDoor.Num Go.Proofs.YtmkpfofjeefaoaaDoor.Sli Go.Proofs.YtmkpfofjeefaoaaDoor.Div

/-- The code of a size. -/
def szF (s : Int) : Int := if s = 4 ∨ s = 8 ∨ s = 16 then 0 else 3
theorem szF_no {s : Int} (h4 : (s == 4) = false) (h8 : (s == 8) = false) (h16 : (s == 16) = false) : szF s = 3 := by
  simp at h4 h8 h16; unfold szF; rw [if_neg (by omega)]

theorem implSizeFault_calls (s : Int) (w : World) :
    Calls Tryd.prog 52 #[.int .i64 s] w fun e w' => e = .returned (.int .i64 (szF s)) ∧ w' = w := by
  cases h4 : (s == 4)
  · cases h8 : (s == 8)
    · cases h16 : (s == 16)
      · have H : Hid (szF s = 3) := szF_no h4 h8 h16
        go_enter Tryd.func52, Tryd.ntmps52
        go_wp2
        go_ret
        exact ⟨ret_int H.out.symm, rfl⟩
      · simp at h16; subst h16
        go_enter Tryd.func52, Tryd.ntmps52
        go_wp2
        go_ret
        exact ⟨rfl, rfl⟩
    · simp at h8; subst h8
      go_enter Tryd.func52, Tryd.ntmps52
      go_wp2
      go_ret
      exact ⟨rfl, rfl⟩
  · simp at h4; subst h4
    go_enter Tryd.func52, Tryd.ntmps52
    go_wp2
    go_ret
    exact ⟨rfl, rfl⟩

theorem specSizeFault_calls (s : Int) (w : World) :
    Calls Tryd.prog 60 #[.int .i64 s] w fun e w' => e = .returned (.int .i64 (szF s)) ∧ w' = w := by
  cases h4 : (s == 4)
  · cases h8 : (s == 8)
    · cases h16 : (s == 16)
      · have H : Hid (szF s = 3) := szF_no h4 h8 h16
        have n4 : (s != 4) = true := by simp at h4 ⊢; exact h4
        have n8 : (s != 8) = true := by simp at h8 ⊢; exact h8
        have n16 : (s != 16) = true := by simp at h16 ⊢; exact h16
        go_enter Tryd.func60, Tryd.ntmps60
        go_wp2
        go_ret
        exact ⟨ret_int H.out.symm, rfl⟩
      · simp at h16; subst h16
        go_enter Tryd.func60, Tryd.ntmps60
        go_wp2
        go_ret
        exact ⟨rfl, rfl⟩
    · simp at h8; subst h8
      go_enter Tryd.func60, Tryd.ntmps60
      go_wp2
      go_ret
      exact ⟨rfl, rfl⟩
  · simp at h4; subst h4
    go_enter Tryd.func60, Tryd.ntmps60
    go_wp2
    go_ret
    exact ⟨rfl, rfl⟩

end Go.Proofs.YtmkpfofjeefaoaaDoor.Samp
