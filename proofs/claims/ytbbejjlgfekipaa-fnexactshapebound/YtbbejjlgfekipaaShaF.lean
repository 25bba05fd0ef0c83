/- The program's gains and fills: what is a gain, what stands where only the gain is known, how near it is. No conditions. -/
import Derived.Test.YtbbejjlgfekipaaShaM
import Derived.Test.YtbbejjlgfekipaaBkI
namespace Go.Proofs.Ytbbejjlgfekipaa.ShaF
open Go.ChangeShapes Go.WideShapes Go.ChangeAt Go.RowKit Go.Proofs.Ytbbejjlgfekipaa.Num Go.Proofs.Ytbbejjlgfekipaa.Sli Go.Proofs.Ytbbejjlgfekipaa.App Go.Proofs.Ytbbejjlgfekipaa.Blk Go.Proofs.Ytbbejjlgfekipaa.Div Go.Proofs.Ytbbejjlgfekipaa.HalM Go.Proofs.Ytbbejjlgfekipaa.PulM Go.Proofs.Ytbbejjlgfekipaa.ShaM Go.Proofs.Ytbbejjlgfekipaa.IntL Go.Proofs.Ytbbejjlgfekipaa.IntA Go.Proofs.Ytbbejjlgfekipaa.BkI

/-- A list that is filled place by place. -/
def upTo (n j : Nat) (f : Nat → Int) : List Int := mkL n (fun i => if i < j then f i else 0)
theorem up_len (n j : Nat) (f : Nat → Int) : (upTo n j f).length = n := mkL_len _ _
theorem up_none (n : Nat) (f : Nat → Int) : upTo n 0 f = List.replicate n 0 := by
  apply ext_g (by rw [up_len, List.length_replicate])
  intro i hi
  rw [up_len] at hi
  unfold upTo
  rw [mkL_get _ hi, if_neg (by omega)]
  simp [hi]
theorem up_all (n : Nat) (f : Nat → Int) : upTo n n f = mkL n f := mkL_congr (fun _ hi => if_pos hi)
theorem up_set {n j : Nat} (f : Nat → Int) (hj : j < n) : (upTo n j f).set j (f j) = upTo n (j + 1) f := by
  apply ext_g (by rw [List.length_set, up_len, up_len])
  intro i hi
  rw [List.length_set, up_len] at hi
  have e2 : (upTo n (j + 1) f).getD i 0 = if i < j + 1 then f i else 0 := mkL_get _ hi
  have e1 : (upTo n j f).getD i 0 = if i < j then f i else 0 := mkL_get _ hi
  rw [e2]
  by_cases e : j = i
  · subst e
    rw [List.getD_eq_getElem?_getD, List.getElem?_set_self (by rw [up_len]; exact hj), if_pos (by omega)]; rfl
  · rw [List.getD_eq_getElem?_getD, List.getElem?_set_ne e, ← List.getD_eq_getElem?_getD, e1]
    by_cases q : i < j
    · rw [if_pos q, if_pos (by omega)]
    · rw [if_neg q, if_neg (by omega)]
theorem set_same (l : List Int) (j : Nat) (x y : Int) : (l.set j x).set j y = l.set j y := List.set_set ..
theorem get_set {l : List Int} {j : Nat} (x : Int) (h : j < l.length) : (l.set j x).getD j 0 = x := by
  rw [List.getD_eq_getElem?_getD, List.getElem?_set_self h]; rfl
theorem nil_own (base : Nat) (w : World) : OwI base w (.slice none 0 0) [] := ⟨rfl, .inl ⟨rfl, rfl⟩⟩
theorem isGain_calls (g : Int) (w : World) : Calls Try.prog 38 #[.int .i64 g] w fun e w' => e = .returned (.bool (gnB g)) ∧ w' = w := by
  have HI := hid (isWithin_calls g 0 67108864)
  go_enter Try.func38, Try.ntmps38
  go_wp2_with (go_at_call 30; refine (HI.out _).mono ?_; rintro e w' ⟨rfl, rfl⟩)
  go_ret
  exact ⟨rfl, rfl⟩
end Go.Proofs.Ytbbejjlgfekipaa.ShaF
