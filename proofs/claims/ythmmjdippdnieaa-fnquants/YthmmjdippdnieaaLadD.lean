/- What the laws of the ladder draw: rungs, coefficients, a list and most. No bounds are told of what is drawn but the list's length. -/
import Derived.Test.YthmmjdippdnieaaGe
import Derived.Test.YthmmjdippdnieaaGa
namespace Go.Proofs.Ythmmjdippdnieaa.LadD
open Go.ChangeShapes Go.WideShapes Go.ChangeAt Go.RowKit Go.Proofs.Ythmmjdippdnieaa.Num Go.Proofs.Ythmmjdippdnieaa.Sli Go.Proofs.Ythmmjdippdnieaa.Src

set_option maxHeartbeats 1000000 in
theorem l9DrawRung_calls (w0 w : World) (g : Nat) (a : Option Addr) (cap : Nat) (bs : List Int) (at' : Nat) (h : Src w0 w g a cap bs at') (hat : at' ≤ 50000) :
    Calls Try.prog 28 #[.pointer (some ⟨g, 0, none⟩)] w fun e w' => ∃ x : Int, e = .returned (.int .i64 x) ∧ Src w0 w' g a cap bs (at' + 4) ∧ w.grownBy w' (some g) := by
  have H := hid h
  have hgw := src_lt h
  clear h
  go_enter Try.func28, Try.ntmps28
  go_wp2_with fail
  refine (l1Next_calls w0 _ g a cap bs _ _ H.out (by omega) (by omega) (by omega)).mono ?_
  rintro e w1 ⟨r1, rfl, _, _, hs1, hg1⟩
  have HS1 := hid hs1
  have HG1 := hid hg1
  clear hs1 hg1
  go_wp2_with fail
  refine (l1Next_calls w0 _ g a cap bs _ _ HS1.out (by omega) (by omega) (by omega)).mono ?_
  rintro e w2 ⟨r2, rfl, _, _, hs2, hg2⟩
  have HS2 := hid hs2
  have HG2 := hid (Lists.grown_then HG1.out hg2 (fun j e => Or.inl (by simpa using e.symm)))
  clear hs2 hg2 HS1 HG1
  go_wp2_with fail
  refine (l1Next_calls w0 _ g a cap bs _ _ HS2.out (by omega) (by omega) (by omega)).mono ?_
  rintro e w3 ⟨r3, rfl, _, _, hs3, hg3⟩
  have HS3 := hid hs3
  have HG3 := hid (Lists.grown_then HG2.out hg3 (fun j e => Or.inl (by simpa using e.symm)))
  clear hs3 hg3 HS2 HG2
  go_wp2_with fail
  refine (l1Pick_lit w0 _ g a cap bs _ 8 2 [0, 1, 2, 47, 46, r1, r2, r3] _ HS3.out (by omega) rfl rfl (by omega) (by omega)).mono ?_
  rintro e w4 ⟨r4, rfl, _, hs4, hg4⟩
  have HS4 := hid hs4
  have HG4 := hid (Lists.grown_then (Lists.grown_then HG3.out (Lists.grown_alloc w3 _ none) (fun j e => by cases e)) hg4 (fun j e => Or.inl (by simpa using e.symm)))
  clear hs4 hg4 HS3 HG3
  go_wp2
  go_ret
  exact ⟨_, rfl, HS4.out, HG4.out⟩
set_option maxHeartbeats 1000000 in
theorem l9DrawCoef_calls (w0 w : World) (g : Nat) (a : Option Addr) (cap : Nat) (bs : List Int) (at' : Nat) (h : Src w0 w g a cap bs at') (hat : at' ≤ 50000) :
    Calls Try.prog 27 #[.pointer (some ⟨g, 0, none⟩)] w fun e w' => ∃ x : Int, e = .returned (.int .i64 x) ∧ Src w0 w' g a cap bs (at' + 4) ∧ w.grownBy w' (some g) := by
  have H := hid h
  have hgw := src_lt h
  clear h
  go_enter Try.func27, Try.ntmps27
  go_wp2_with fail
  refine (l1Signed_calls w0 _ g a cap bs _ _ H.out (by omega) (by omega) (by omega)).mono ?_
  rintro e w1 ⟨r1, rfl, _, _, hs1, hg1⟩
  have HS1 := hid hs1
  have HG1 := hid hg1
  clear hs1 hg1
  go_wp2_with fail
  refine (l1Signed_calls w0 _ g a cap bs _ _ HS1.out (by omega) (by omega) (by omega)).mono ?_
  rintro e w2 ⟨r2, rfl, _, _, hs2, hg2⟩
  have HS2 := hid hs2
  have HG2 := hid (Lists.grown_then HG1.out hg2 (fun j e => Or.inl (by simpa using e.symm)))
  clear hs2 hg2 HS1 HG1
  go_wp2_with fail
  refine (l1Signed_calls w0 _ g a cap bs _ _ HS2.out (by omega) (by omega) (by omega)).mono ?_
  rintro e w3 ⟨r3, rfl, _, _, hs3, hg3⟩
  have HS3 := hid hs3
  have HG3 := hid (Lists.grown_then HG2.out hg3 (fun j e => Or.inl (by simpa using e.symm)))
  clear hs3 hg3 HS2 HG2
  go_wp2_with fail
  refine (l1Pick_lit w0 _ g a cap bs _ 8 2 [0, 1, -1, r1, r2, r3, 16777216, -16777216] _ HS3.out (by omega) rfl rfl (by omega) (by omega)).mono ?_
  rintro e w4 ⟨r4, rfl, _, hs4, hg4⟩
  have HS4 := hid hs4
  have HG4 := hid (Lists.grown_then (Lists.grown_then HG3.out (Lists.grown_alloc w3 _ none) (fun j e => by cases e)) hg4 (fun j e => Or.inl (by simpa using e.symm)))
  clear hs4 hg4 HS3 HG3
  go_wp2
  go_ret
  exact ⟨_, rfl, HS4.out, HG4.out⟩
set_option maxHeartbeats 1000000 in
theorem drawQuantize_calls (a : Option Addr) (cap : Nat) (bs : List Int) (w0 : World) (hsl : Sl .u8 w0 (.slice a bs.length cap) bs) (hbd : ∀ x ∈ bs, 0 ≤ x ∧ x ≤ 255) (hlen : bs.length ≤ 1048576) :
    Calls Try.prog 10 #[.slice a bs.length cap] w0 fun e w' => ∃ x y : Int, e = .returned (.tuple #[.int .i64 x, .int .i64 y]) ∧ Below w0.heap.size w0 w' := by
  have H := hid (l1Source_calls a cap bs w0 w0 (Below.refl _ _) hsl hbd hlen)
  clear hsl hbd hlen
  go_enter Try.func10, Try.ntmps10
  go_wp2_with fail
  refine H.out.mono ?_
  rintro e w1 ⟨g, rfl, hs1, _⟩
  have Hs1 := hid hs1
  clear hs1 H
  go_wp2_with fail
  refine (l9DrawCoef_calls w0 _ g a cap bs _ Hs1.out (by omega)).mono ?_
  rintro e w2 ⟨r1, rfl, hs2, _⟩
  have Hs2 := hid hs2
  clear hs2 Hs1
  go_wp2_with fail
  refine (l9DrawCoef_calls w0 _ g a cap bs _ Hs2.out (by omega)).mono ?_
  rintro e w3 ⟨r2, rfl, hs3, _⟩
  have Hs3 := hid hs3
  clear hs3 Hs2
  go_wp2_with fail
  refine (l9DrawCoef_calls w0 _ g a cap bs _ Hs3.out (by omega)).mono ?_
  rintro e w4 ⟨r3, rfl, hs4, _⟩
  have Hs4 := hid hs4
  clear hs4 Hs3
  go_wp2_with fail
  refine (l1Pick_lit w0 _ g a cap bs _ 4 2 [r1, r2, r3, 16777217] _ Hs4.out (by omega) rfl rfl (by omega) (by omega)).mono ?_
  rintro e w5 ⟨r4, rfl, _, hs5, _⟩
  have Hs5 := hid hs5
  clear hs5 Hs4
  go_wp2_with fail
  refine (l9DrawRung_calls w0 _ g a cap bs _ Hs5.out (by omega)).mono ?_
  rintro e w6 ⟨q1, rfl, hs6, _⟩
  have Hs6 := hid hs6
  clear hs6 Hs5
  go_wp2_with fail
  refine (l9DrawRung_calls w0 _ g a cap bs _ Hs6.out (by omega)).mono ?_
  rintro e w7 ⟨q2, rfl, hs7, _⟩
  have Hs7 := hid hs7
  clear hs7 Hs6
  go_wp2_with fail
  refine (l9DrawRung_calls w0 _ g a cap bs _ Hs7.out (by omega)).mono ?_
  rintro e w8 ⟨q3, rfl, hs8, _⟩
  have Hs8 := hid hs8
  clear hs8 Hs7
  go_wp2_with fail
  refine (l1Pick_lit w0 _ g a cap bs _ 5 2 [q1, q2, q3, 48, -1] _ Hs8.out (by omega) rfl rfl (by omega) (by omega)).mono ?_
  rintro e w9 ⟨r9, rfl, _, hs9, _⟩
  have Hb := hid hs9.2.1
  clear hs9 Hs8
  go_wp2
  go_ret2
  exact ⟨_, _, rfl, Hb.out⟩
end Go.Proofs.Ythmmjdippdnieaa.LadD
