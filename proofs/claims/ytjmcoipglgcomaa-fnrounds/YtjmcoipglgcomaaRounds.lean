/- What FnRounds draws: two numbers, and one more. -/
import Derived.Test.YtjmcoipglgcomaaSrc
import Derived.Test.YtjmcoipglgcomaaDiv
namespace Go.Proofs.Ytjmcoipglgcomaa.Rounds
open Go.ChangeShapes Go.WideShapes Go.ChangeAt Go.RowKit Go.Proofs.Ytjmcoipglgcomaa.Num Go.Proofs.Ytjmcoipglgcomaa.Sli Go.Proofs.Ytjmcoipglgcomaa.Src Go.Proofs.Ytjmcoipglgcomaa.Div

set_option maxHeartbeats 1000000 in
theorem drawRoundDiv_calls (a : Option Addr) (cap : Nat) (bs : List Int) (w0 : World) (hsl : Sl .u8 w0 (.slice a bs.length cap) bs) (hbd : ∀ x ∈ bs, 0 ≤ x ∧ x ≤ 255) (hlen : bs.length ≤ 1048576) :
    Calls Try.prog 10 #[.slice a bs.length cap] w0 fun e w' => ∃ x y : Int, e = .returned (.tuple #[.int .i64 x, .int .i64 y]) ∧ Below w0.heap.size w0 w' := by
  have H := hid (l1Source_calls a cap bs w0 w0 (Below.refl _ _) hsl hbd hlen)
  clear hsl hbd hlen
  go_enter Try.func10, Try.ntmps10
  go_wp2_with fail
  refine H.out.mono ?_
  rintro e w1 ⟨g, rfl, hs1, _⟩
  have Hs1 := hid hs1
  clear hs1 H
  go_wp2_with fail
  refine (l1Signed_calls w0 _ g a cap bs 0 _ Hs1.out (by omega) (by omega) (by omega)).mono ?_
  rintro e w2 ⟨r2, rfl, _, _, hs2, _⟩
  have Hs2 := hid hs2
  clear hs2
  go_wp2_with fail
  refine (l1Signed_calls w0 _ g a cap bs _ _ Hs2.out (by omega) (by omega) (by omega)).mono ?_
  rintro e w3 ⟨r3, rfl, _, _, hs3, _⟩
  have Hs3 := hid hs3
  clear hs3
  go_wp2_with fail
  refine (l1Pick_lit w0 _ g a cap bs _ 10 2 [0, 5, -5, 7, -7, 1099511627776, -1099511627776, 1099511627777, r2, r3] _ Hs3.out (by omega) rfl rfl (by omega) (by omega)).mono ?_
  rintro e w4 ⟨r4, rfl, _, hs4, _⟩
  have Hs4 := hid hs4
  clear hs4
  go_wp2_with fail
  refine (l1Next_calls w0 _ g a cap bs _ _ Hs4.out (by omega) (by omega) (by omega)).mono ?_
  rintro e w5 ⟨r5, rfl, _, _, hs5, _⟩
  have Hs5 := hid hs5
  clear hs5
  go_wp2_with fail
  refine (l1Pick_lit w0 _ g a cap bs _ 9 2 [1, 2, 3, 10, 1024, 33554432, 33554433, 0, 1 + r5] _ Hs5.out (by omega) rfl rfl (by omega) (by omega)).mono ?_
  rintro e w6 ⟨r6, rfl, _, hs6, _⟩
  have Hb := hid hs6.2.1
  clear hs6
  go_wp2
  go_ret2
  exact ⟨_, _, rfl, Hb.out⟩

set_option maxHeartbeats 1000000 in
theorem drawClamp16_calls (a : Option Addr) (cap : Nat) (bs : List Int) (w0 : World) (hsl : Sl .u8 w0 (.slice a bs.length cap) bs) (hbd : ∀ x ∈ bs, 0 ≤ x ∧ x ≤ 255) (hlen : bs.length ≤ 1048576) :
    Calls Try.prog 13 #[.slice a bs.length cap] w0 fun e w' => ∃ x : Int, e = .returned (.int .i64 x) ∧ Below w0.heap.size w0 w' := by
  have H := hid (l1Source_calls a cap bs w0 w0 (Below.refl _ _) hsl hbd hlen)
  clear hsl hbd hlen
  go_enter Try.func13, Try.ntmps13
  go_wp2_with fail
  refine H.out.mono ?_
  rintro e w1 ⟨g, rfl, hs1, _⟩
  have Hs1 := hid hs1
  clear hs1 H
  go_wp2_with fail
  refine (l1Signed_calls w0 _ g a cap bs 0 _ Hs1.out (by omega) (by omega) (by omega)).mono ?_
  rintro e w2 ⟨r2, rfl, _, _, hs2, _⟩
  have Hs2 := hid hs2
  clear hs2
  go_wp2_with fail
  refine (l1Pick_lit w0 _ g a cap bs _ 8 2 [0, 32767, 32768, -32768, -32769, r2, 9223372036854775807, -9223372036854775807] _ Hs2.out (by omega) rfl rfl (by omega) (by omega)).mono ?_
  rintro e w4 ⟨r4, rfl, _, hs4, _⟩
  have Hb := hid hs4.2.1
  clear hs4
  go_wp2
  go_ret
  exact ⟨_, rfl, Hb.out⟩
end Go.Proofs.Ytjmcoipglgcomaa.Rounds
