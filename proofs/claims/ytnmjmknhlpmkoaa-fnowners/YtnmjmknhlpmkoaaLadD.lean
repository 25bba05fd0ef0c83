/- What the laws of the ladder draw: rungs, coefficients, a list and most. No bounds are told of what is drawn but the list's length. -/
import Derived.Test.YtnmjmknhlpmkoaaSrc
import Derived.Test.YtnmjmknhlpmkoaaLists
import Derived.Test.YtnmjmknhlpmkoaaIntA
namespace Go.Proofs.Ytnmjmknhlpmkoaa.LadD
open Go.ChangeShapes Go.WideShapes Go.ChangeAt Go.RowKit Go.Proofs.Ytnmjmknhlpmkoaa.Num Go.Proofs.Ytnmjmknhlpmkoaa.Sli Go.Proofs.Ytnmjmknhlpmkoaa.Src

set_option maxHeartbeats 1000000 in
theorem l9DrawRung_calls (w0 w : World) (g : Nat) (a : Option Addr) (cap : Nat) (bs : List Int) (at' : Nat) (h : Src w0 w g a cap bs at') (hat : at' ≤ 50000) :
    Calls Try.prog 30 #[.pointer (some ⟨g, 0, none⟩)] w fun e w' => ∃ x : Int, e = .returned (.int .i64 x) ∧ Src w0 w' g a cap bs (at' + 4) ∧ w.grownBy w' (some g) := by
  have H := hid h
  have hgw := src_lt h
  clear h
  go_enter Try.func30, Try.ntmps30
  go_wp2_with fail
  refine (l1Next_calls w0 _ g a cap bs _ _ H.out (by omega) (by omega) (by omega)).mono ?_
  rintro e w1 ⟨r1, rfl, _, _, hs1, hg1⟩
  have HS1 := hid hs1
  have HG1 := hid hg1
  clear hs1 hg1
  go_wp2_with fail
  refine (l1Next_calls w0 _ g a cap bs _ _ HS1.out (by omega) (by omega) (by omega)).mono ?_
  rintro e w2 ⟨r2, rfl, _, _, hs2, hg2⟩
  have HS2 := hid hs2
  have HG2 := hid (Lists.grown_then HG1.out hg2 (fun j e => Or.inl (by simpa using e.symm)))
  clear hs2 hg2 HS1 HG1
  go_wp2_with fail
  refine (l1Next_calls w0 _ g a cap bs _ _ HS2.out (by omega) (by omega) (by omega)).mono ?_
  rintro e w3 ⟨r3, rfl, _, _, hs3, hg3⟩
  have HS3 := hid hs3
  have HG3 := hid (Lists.grown_then HG2.out hg3 (fun j e => Or.inl (by simpa using e.symm)))
  clear hs3 hg3 HS2 HG2
  go_wp2_with fail
  refine (l1Pick_lit w0 _ g a cap bs _ 8 2 [0, 1, 2, 47, 46, r1, r2, r3] _ HS3.out (by omega) rfl rfl (by omega) (by omega)).mono ?_
  rintro e w4 ⟨r4, rfl, _, hs4, hg4⟩
  have HS4 := hid hs4
  have HG4 := hid (Lists.grown_then (Lists.grown_then HG3.out (Lists.grown_alloc w3 _ none) (fun j e => by cases e)) hg4 (fun j e => Or.inl (by simpa using e.symm)))
  clear hs4 hg4 HS3 HG3
  go_wp2
  go_ret
  exact ⟨_, rfl, HS4.out, HG4.out⟩
end Go.Proofs.Ytnmjmknhlpmkoaa.LadD
