/- What FnOwners draws: a rung, a rung and a mask, a number and a band. Nothing is told of what is drawn. -/
import Derived.Test.YtnmjmknhlpmkoaaLadD
namespace Go.Proofs.Ytnmjmknhlpmkoaa.BanE
open Go.ChangeShapes Go.WideShapes Go.ChangeAt Go.RowKit Go.Proofs.Ytnmjmknhlpmkoaa.Num Go.Proofs.Ytnmjmknhlpmkoaa.Sli Go.Proofs.Ytnmjmknhlpmkoaa.Src Go.Proofs.Ytnmjmknhlpmkoaa.LadD
set_option maxHeartbeats 2000000 in
theorem drawStepOf_calls (a : Option Addr) (cap : Nat) (bs : List Int) (w0 : World) (hsl : Sl .u8 w0 (.slice a bs.length cap) bs) (hbd : ∀ x ∈ bs, 0 ≤ x ∧ x ≤ 255) (hlen : bs.length ≤ 1048576) :
    Calls Try.prog 22 #[.slice a bs.length cap] w0 fun e w' => ∃ r : Int, e = .returned (.int .i64 r) ∧ Below w0.heap.size w0 w' := by
  have H := hid (l1Source_calls a cap bs w0 w0 (Below.refl _ _) hsl hbd hlen)
  clear hsl hbd hlen
  go_enter Try.func22, Try.ntmps22
  go_wp2_with fail
  refine H.out.mono ?_
  rintro e w1 ⟨g, rfl, hs1, _⟩
  have HS1 := hid hs1
  clear hs1 H
  go_wp2_with fail
  refine (l9DrawRung_calls w0 _ g a cap bs _ HS1.out (by omega)).mono ?_
  rintro e w2 ⟨r1, rfl, hs2, _⟩
  have HS2 := hid hs2
  clear hs2 HS1
  go_wp2_with fail
  refine (l9DrawRung_calls w0 _ g a cap bs _ HS2.out (by omega)).mono ?_
  rintro e w3 ⟨r2, rfl, hs3, _⟩
  have HS3 := hid hs3
  clear hs3 HS2
  go_wp2_with fail
  refine (l9DrawRung_calls w0 _ g a cap bs _ HS3.out (by omega)).mono ?_
  rintro e w4 ⟨r3, rfl, hs4, _⟩
  have HS4 := hid hs4
  clear hs4 HS3
  go_wp2_with fail
  refine (l1Pick_lit w0 _ g a cap bs _ 5 2 [r1, r2, r3, 48, -1] _ HS4.out (by omega) rfl rfl (by omega) (by omega)).mono ?_
  rintro e w5 ⟨r, rfl, _, hs5, _⟩
  have HB := hid hs5.2.1
  clear hs5 HS4
  go_wp2
  go_ret
  exact ⟨_, rfl, HB.out⟩
set_option maxHeartbeats 2000000 in
theorem drawGainRung_calls (a : Option Addr) (cap : Nat) (bs : List Int) (w0 : World) (hsl : Sl .u8 w0 (.slice a bs.length cap) bs) (hbd : ∀ x ∈ bs, 0 ≤ x ∧ x ≤ 255) (hlen : bs.length ≤ 1048576) :
    Calls Try.prog 10 #[.slice a bs.length cap] w0 fun e w' => ∃ r m : Int, e = .returned (.tuple #[.int .i64 r, .int .i64 m]) ∧ Below w0.heap.size w0 w' := by
  have H := hid (l1Source_calls a cap bs w0 w0 (Below.refl _ _) hsl hbd hlen)
  have HD := hid (fun w1 (hb : Below w0.heap.size w0 w1) => drawStepOf_calls a cap bs w1 (hsl.later hb) hbd hlen)
  clear hsl hbd hlen
  go_enter Try.func10, Try.ntmps10
  go_wp2_with fail
  refine H.out.mono ?_
  rintro e w1 ⟨g, rfl, hs1, _⟩
  have HS1 := hid hs1
  clear hs1 H
  go_wp2_with fail
  refine (HD.out _ HS1.out.2.1).mono ?_
  rintro e w2 ⟨r, rfl, hb2⟩
  have HS2 := hid (Lists.src_grown (row := none) HS1.out ⟨hb2.os, hb2.tape, hb2.output, hb2.size, fun j hj _ => hb2.block j hj⟩ (fun _ e => by cases e))
  clear hb2 HS1 HD
  go_wp2_with fail
  refine (l1Pick_lit w0 _ g a cap bs _ 7 2 [0, 1, 2, 3, 3, 4, -1] _ HS2.out (by omega) rfl rfl (by omega) (by omega)).mono ?_
  rintro e w3 ⟨m, rfl, _, hs3, _⟩
  have HB := hid hs3.2.1
  clear hs3 HS2
  go_wp2
  go_ret2
  exact ⟨_, _, rfl, HB.out⟩
set_option maxHeartbeats 2000000 in
theorem drawOwnerOf_calls (a : Option Addr) (cap : Nat) (bs : List Int) (w0 : World) (hsl : Sl .u8 w0 (.slice a bs.length cap) bs) (hbd : ∀ x ∈ bs, 0 ≤ x ∧ x ≤ 255) (hlen : bs.length ≤ 1048576) :
    Calls Try.prog 8 #[.slice a bs.length cap] w0 fun e w' => ∃ n b : Int, e = .returned (.tuple #[.int .i64 n, .int .i64 b]) ∧ Below w0.heap.size w0 w' := by
  have H := hid (l1Source_calls a cap bs w0 w0 (Below.refl _ _) hsl hbd hlen)
  clear hsl hbd hlen
  go_enter Try.func8, Try.ntmps8
  go_wp2_with fail
  refine H.out.mono ?_
  rintro e w1 ⟨g, rfl, hs1, _⟩
  have HS1 := hid hs1
  clear hs1 H
  go_wp2_with fail
  refine (l1Next_calls w0 _ g a cap bs _ 99 HS1.out (by omega) (by omega) (by omega)).mono ?_
  rintro e w2 ⟨r1, rfl, _, _, hs2, _⟩
  have HS2 := hid hs2
  clear hs2 HS1
  go_wp2_with fail
  refine (l1Pick_lit w0 _ g a cap bs _ 6 2 [0, 1, 9999, 10000, -1, r1] _ HS2.out (by omega) rfl rfl (by omega) (by omega)).mono ?_
  rintro e w3 ⟨r2, rfl, _, hs3, _⟩
  have HS3 := hid hs3
  clear hs3 HS2
  go_wp2_with fail
  refine (l1Pick_lit w0 _ g a cap bs _ 6 2 [0, 1, 0, 1, 2, -1] _ HS3.out (by omega) rfl rfl (by omega) (by omega)).mono ?_
  rintro e w4 ⟨r3, rfl, _, hs4, _⟩
  have HB := hid hs4.2.1
  clear hs4 HS3
  go_wp2
  go_ret2
  exact ⟨_, _, rfl, HB.out⟩
end Go.Proofs.Ytnmjmknhlpmkoaa.BanE
