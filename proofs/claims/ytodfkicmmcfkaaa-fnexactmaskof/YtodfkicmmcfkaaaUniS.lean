/- The model unites two halves. Conditions: each half has 1, 2, 4 or 8 numbers, both as many, none of them beyond 34359738368. -/
import Derived.Test.YtodfkicmmcfkaaaHalS
namespace Go.Proofs.Ytodfkicmmcfkaaa.UniS
open Go.ChangeShapes Go.WideShapes Go.ChangeAt Go.RowKit Go.Proofs.Ytodfkicmmcfkaaa.Num Go.Proofs.Ytodfkicmmcfkaaa.Sli Go.Proofs.Ytodfkicmmcfkaaa.App Go.Proofs.Ytodfkicmmcfkaaa.Div Go.Proofs.Ytodfkicmmcfkaaa.TurM Go.Proofs.Ytodfkicmmcfkaaa.HalM Go.Proofs.Ytodfkicmmcfkaaa.IntL Go.Proofs.Ytodfkicmmcfkaaa.IntA Go.Proofs.Ytodfkicmmcfkaaa.TurS Go.Proofs.Ytodfkicmmcfkaaa.MixS Go.Proofs.Ytodfkicmmcfkaaa.HalS

/-- One list of m numbers in a block of its own. -/
structure UK (w : World) (m ge ce : Nat) (E : List Int) (W : World) : Prop where
  e : OwI w.heap.size W (.slice (some ⟨ge, 0, none⟩) m ce) E
  b : Below w.heap.size w W
theorem UK.drew {w : World} {m ge ce : Nat} {E : List Int} {W : World} (h : UK w m ge ce E W) : UK w m ge ce E W.drew := ⟨h.e, h.b.drew⟩
/-- And a list of n numbers besides. -/
structure UO (w : World) (m ge ce n go : Nat) (E O : List Int) (W : World) : Prop where
  ne : ge ≠ go
  e : OwI w.heap.size W (.slice (some ⟨ge, 0, none⟩) m ce) E
  o : OwI w.heap.size W (.slice (some ⟨go, 0, none⟩) n n) O
  b : Below w.heap.size w W
theorem UO.drew {w : World} {m ge ce n go : Nat} {E O : List Int} {W : World} (h : UO w m ge ce n go E O W) : UO w m ge ce n go E O W.drew := ⟨h.ne, h.e, h.o, h.b.drew⟩
theorem rep_mkL (n : Nat) : List.replicate n (0 : Int) = mkL n (fun _ => 0) := by
  apply ext_g (by rw [List.length_replicate, mkL_len])
  intro i hi
  rw [List.length_replicate] at hi
  rw [mkL_get _ hi]; simp [hi]
theorem unE_lo {n j : Nat} {s e : List Int} (h : j < n / 2) : unE n s e j = s.getD j 0 - e.getD j 0 / 2 + e.getD j 0 := if_pos h
theorem unE_hi {n j : Nat} {s e : List Int} (h : j < n / 2) : unE n s e (n - 1 - j) = s.getD j 0 - e.getD j 0 / 2 := by
  unfold unE; rw [if_neg (by omega), show n - 1 - (n - 1 - j) = j by omega]

end Go.Proofs.Ytodfkicmmcfkaaa.UniS
