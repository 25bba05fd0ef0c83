/- What the laws of gains and fills draw. Conditions: those of the source. -/
import Derived.Test.YtkbkklhofffimaaSrc
import Derived.Test.YtkbkklhofffimaaLists
import Derived.Test.YtkbkklhofffimaaIntA
namespace Go.Proofs.Ytkbkklhofffimaa.ShaD
open Go.ChangeShapes Go.WideShapes Go.ChangeAt Go.RowKit Go.Proofs.Ytkbkklhofffimaa.Num Go.Proofs.Ytkbkklhofffimaa.Sli Go.Proofs.Ytkbkklhofffimaa.Src

set_option maxHeartbeats 1000000 in
theorem l12DrawGain_calls (w0 w : World) (g : Nat) (a : Option Addr) (cap : Nat) (bs : List Int) (at' : Nat) (h : Src w0 w g a cap bs at') (hat : at' ≤ 50000) :
    Calls Try.prog 21 #[.pointer (some ⟨g, 0, none⟩)] w fun e w' => ∃ x : Int, e = .returned (.int .i64 x) ∧ Src w0 w' g a cap bs (at' + 4) := by
  have H := hid h
  clear h
  go_enter Try.func21, Try.ntmps21
  go_wp2_with fail
  refine (l1Next_calls w0 _ g a cap bs _ _ H.out (by omega) (by omega) (by omega)).mono ?_
  rintro e w1 ⟨r1, rfl, _, _, hs1, _⟩
  have HS1 := hid hs1
  clear hs1 H
  go_wp2_with fail
  refine (l1Next_calls w0 _ g a cap bs _ _ HS1.out (by omega) (by omega) (by omega)).mono ?_
  rintro e w2 ⟨r2, rfl, _, _, hs2, _⟩
  have HS2 := hid hs2
  clear hs2 HS1
  go_wp2_with fail
  refine (l1Next_calls w0 _ g a cap bs _ _ HS2.out (by omega) (by omega) (by omega)).mono ?_
  rintro e w3 ⟨r3, rfl, _, _, hs3, _⟩
  have HS3 := hid hs3
  clear hs3 HS2
  go_wp2_with fail
  refine (l1Pick_lit w0 _ g a cap bs _ 9 2 [0, 1, 7, r1, r2, r3, 67108864, 67108865, -1] _ HS3.out (by omega) rfl rfl (by omega) (by omega)).mono ?_
  rintro e w4 ⟨r4, rfl, _, hs4, _⟩
  have HS4 := hid hs4
  clear hs4 HS3
  go_wp2
  go_ret
  exact ⟨_, rfl, HS4.out⟩
set_option maxHeartbeats 1000000 in
theorem drawFillOf_calls (a : Option Addr) (cap : Nat) (bs : List Int) (w0 : World) (hsl : Sl .u8 w0 (.slice a bs.length cap) bs) (hbd : ∀ x ∈ bs, 0 ≤ x ∧ x ≤ 255) (hlen : bs.length ≤ 1048576) :
    Calls Try.prog 7 #[.slice a bs.length cap] w0 fun e w' => ∃ d g : Int, e = .returned (.tuple #[.int .i64 d, .int .i64 g]) ∧ Below w0.heap.size w0 w' := by
  have H := hid (l1Source_calls a cap bs w0 w0 (Below.refl _ _) hsl hbd hlen)
  clear hsl hbd hlen
  go_enter Try.func7, Try.ntmps7
  go_wp2_with fail
  refine H.out.mono ?_
  rintro e w1 ⟨g, rfl, hs1, _⟩
  have Hs1 := hid hs1
  clear hs1 H
  go_wp2_with fail
  refine (l1Pick_lit w0 _ g a cap bs _ 8 2 [1, 2, 3, 4, 2, 4, 0, 5] _ Hs1.out (by omega) rfl rfl (by omega) (by omega)).mono ?_
  rintro e w2 ⟨d, rfl, _, hs2, _⟩
  have Hs2 := hid hs2
  clear hs2 Hs1
  go_wp2_with fail
  refine (l12DrawGain_calls w0 _ g a cap bs _ Hs2.out (by omega)).mono ?_
  rintro e w3 ⟨x, rfl, hs3⟩
  have Hb := hid hs3.2.1
  clear hs3 Hs2
  go_wp2
  go_ret2
  exact ⟨_, _, rfl, Hb.out⟩
set_option maxHeartbeats 1000000 in
theorem drawFillBound_calls (a : Option Addr) (cap : Nat) (bs : List Int) (w0 : World) (hsl : Sl .u8 w0 (.slice a bs.length cap) bs) (hbd : ∀ x ∈ bs, 0 ≤ x ∧ x ≤ 255) (hlen : bs.length ≤ 1048576) :
    Calls Try.prog 9 #[.slice a bs.length cap] w0 fun e w' => ∃ n g : Int, e = .returned (.tuple #[.int .i64 n, .int .i64 g]) ∧ Below w0.heap.size w0 w' := by
  have H := hid (l1Source_calls a cap bs w0 w0 (Below.refl _ _) hsl hbd hlen)
  clear hsl hbd hlen
  go_enter Try.func9, Try.ntmps9
  go_wp2_with fail
  refine H.out.mono ?_
  rintro e w1 ⟨g, rfl, hs1, _⟩
  have Hs1 := hid hs1
  clear hs1 H
  go_wp2_with fail
  refine (l12DrawGain_calls w0 _ g a cap bs _ Hs1.out (by omega)).mono ?_
  rintro e w2 ⟨d, rfl, hs2⟩
  have Hs2 := hid hs2
  clear hs2 Hs1
  go_wp2_with fail
  refine (l12DrawGain_calls w0 _ g a cap bs _ Hs2.out (by omega)).mono ?_
  rintro e w3 ⟨x, rfl, hs3⟩
  have Hb := hid hs3.2.1
  clear hs3 Hs2
  go_wp2
  go_ret2
  exact ⟨_, _, rfl, Hb.out⟩
end Go.Proofs.Ytkbkklhofffimaa.ShaD
