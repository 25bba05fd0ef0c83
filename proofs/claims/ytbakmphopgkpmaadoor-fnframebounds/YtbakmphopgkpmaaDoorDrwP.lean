/- The draws of turns and of pairs: numbers are told, and nothing that was there turns. Conditions: those of the source. -/
import Derived.Test.YtbakmphopgkpmaaDoorGe
import Derived.Test.YtbakmphopgkpmaaDoorGa
namespace Go.Proofs.YtbakmphopgkpmaaDoor.DrwP
open Go.ChangeShapes Go.WideShapes Go.ChangeAt Go.RowKit Go.Proofs.YtbakmphopgkpmaaDoor.Num Go.Proofs.YtbakmphopgkpmaaDoor.Sli Go.Proofs.YtbakmphopgkpmaaDoor.App Go.Proofs.YtbakmphopgkpmaaDoor.Src

theorem src_later {w0 w w' : World} {g : Nat} {a : Option Addr} {cap : Nat} {bs : List Int} {at' : Nat} (h : Src w0 w g a cap bs at') (hb : Below w.heap.size w w') : Src w0 w' g a cap bs at' :=
  ⟨h.1, bthen h.2.1 hb, h.2.2.1, h.2.2.2.1, h.2.2.2.2.1, (hb.block g (src_lt h)).trans h.2.2.2.2.2⟩
set_option maxHeartbeats 1000000 in
theorem l5Some_calls (w0 w : World) (g : Nat) (a : Option Addr) (cap : Nat) (bs : List Int) (at' : Nat) (h : Src w0 w g a cap bs at') (hat : at' ≤ 90000) :
    Calls Tryd.prog 90 #[.pointer (some ⟨g, 0, none⟩)] w fun e w' => ∃ r : Int, e = .returned (.int .i64 r) ∧ Src w0 w' g a cap bs (at' + 5) := by
  have H := hid h
  clear h
  go_enter Tryd.func90, Tryd.ntmps90
  go_wp2_with fail
  refine (l1Signed_calls w0 _ g a cap bs _ 9 H.out (by omega) (by omega) (by omega)).mono ?_
  rintro e w1 ⟨r1, rfl, _, _, hs1, _⟩
  have H1 := hid hs1
  clear hs1 H
  go_wp2_with fail
  refine (l1Signed_calls w0 _ g a cap bs _ 9 H1.out (by omega) (by omega) (by omega)).mono ?_
  rintro e w2 ⟨r2, rfl, _, _, hs2, _⟩
  have H2 := hid hs2
  clear hs2 H1
  go_wp2_with fail
  refine (l1Signed_calls w0 _ g a cap bs _ 40000 H2.out (by omega) (by omega) (by omega)).mono ?_
  rintro e w3 ⟨r3, rfl, _, _, hs3, _⟩
  have H3 := hid hs3
  clear hs3 H2
  go_wp2_with fail
  refine (l1Signed_calls w0 _ g a cap bs _ 40000 H3.out (by omega) (by omega) (by omega)).mono ?_
  rintro e w4 ⟨r4, rfl, _, _, hs4, _⟩
  have H4 := hid hs4
  clear hs4 H3
  go_wp2_with fail
  refine (l1Pick_lit w0 _ g a cap bs _ 9 2 [0, 1, -1, r1, r2, r3, r4, 137438953472, -137438953472] _ H4.out (by omega) rfl rfl (by omega) (by omega)).mono ?_
  rintro e w6 ⟨r, rfl, _, hs6, _⟩
  have H6 := hid hs6
  clear hs6 H4
  go_wp2
  go_ret
  exact ⟨r, rfl, H6.out⟩
theorem bentSize_calls (w0 w : World) (g : Nat) (a : Option Addr) (cap : Nat) (bs : List Int) (at' : Nat) (h : Src w0 w g a cap bs at') (hat : at' ≤ 90000) :
    Calls Tryd.prog 77 #[.pointer (some ⟨g, 0, none⟩)] w fun e w' => ∃ r : Int, e = .returned (.int .i64 r) ∧ Src w0 w' g a cap bs (at' + 1) := by
  have H := hid h
  clear h
  go_enter Tryd.func77, Tryd.ntmps77
  go_wp2_with fail
  refine (l1Pick_lit w0 _ g a cap bs _ 15 2 [4, 8, 16, 8, 4, 8, 16, 8, 4, 8, 16, 8, 0, 5, 32] _ H.out (by omega) rfl rfl (by omega) (by omega)).mono ?_
  rintro e w2 ⟨r, rfl, _, hs2, _⟩
  have HS := hid hs2
  clear hs2
  go_wp2
  go_ret
  exact ⟨_, rfl, HS.out⟩
theorem drawTurnOf_calls (a : Option Addr) (cap : Nat) (bs : List Int) (w : World) (hsl : Sl .u8 w (.slice a bs.length cap) bs) (hbd : ∀ x ∈ bs, 0 ≤ x ∧ x ≤ 255) (hlen : bs.length ≤ 1048576) :
    Calls Tryd.prog 43 #[.slice a bs.length cap] w fun e w' => ∃ r1 r2 : Int, e = .returned (.tuple #[.int .i64 r1, .int .i64 r2]) ∧ Below w.heap.size w w' := by
  have HS := hid (l1Source_calls a cap bs w w (Below.refl _ _) hsl hbd hlen)
  clear hsl hbd
  go_enter Tryd.func43, Tryd.ntmps43
  go_wp2_with fail
  refine HS.out.mono ?_
  rintro e w1 ⟨g, rfl, hs1, _⟩
  have H1 := hid hs1
  clear hs1 HS
  go_wp2_with fail
  refine (bentSize_calls w _ g a cap bs _ H1.out (by omega)).mono ?_
  rintro e w2 ⟨r1, rfl, hs2⟩
  have H2 := hid hs2
  clear hs2 H1
  go_wp2_with fail
  refine (l1Pick_lit w _ g a cap bs _ 12 2 [0, 1, 2, 3, 4, 5, 6, 7, 0, 1, 8, -1] _ H2.out (by omega) rfl rfl (by omega) (by omega)).mono ?_
  rintro e w3 ⟨r2, rfl, _, hs3, _⟩
  have H3 := hid hs3.2.1
  clear hs3 H2
  go_wp2
  exact bodyPost_ret (v := .tuple #[.int .i64 r1, .int .i64 r2]) (by simp [results, Tryd.results43, go_sem]) rfl ⟨r1, r2, rfl, H3.out⟩
set_option maxHeartbeats 2000000 in
theorem drawTurnPair_calls (a : Option Addr) (cap : Nat) (bs : List Int) (w : World) (hsl : Sl .u8 w (.slice a bs.length cap) bs) (hbd : ∀ x ∈ bs, 0 ≤ x ∧ x ≤ 255) (hlen : bs.length ≤ 1048576) :
    Calls Tryd.prog 41 #[.slice a bs.length cap] w fun e w' => ∃ r1 r2 r3 r4 : Int, e = .returned (.tuple #[.int .i64 r1, .int .i64 r2, .int .i64 r3, .int .i64 r4]) ∧ Below w.heap.size w w' := by
  have HS := hid (l1Source_calls a cap bs w w (Below.refl _ _) hsl hbd hlen)
  have HD := hid (fun W (hb : Below w.heap.size w W) => drawTurnOf_calls a cap bs W (hsl.later hb) hbd hlen)
  clear hsl hbd
  go_enter Tryd.func41, Tryd.ntmps41
  go_wp2_with fail
  refine HS.out.mono ?_
  rintro e w1 ⟨g, rfl, hs1, _⟩
  have H1 := hid hs1
  clear hs1 HS
  go_wp2_with fail
  refine (HD.out _ H1.out.2.1).mono ?_
  rintro e w2 ⟨r1, r2, rfl, hb2⟩
  have H2 := hid (src_later H1.out hb2)
  clear hb2 H1 HD
  go_wp2_with fail
  refine (l5Some_calls w _ g a cap bs _ H2.out (by omega)).mono ?_
  rintro e w3 ⟨x1, rfl, hs3⟩
  have H3 := hid hs3
  clear hs3 H2
  go_wp2_with fail
  refine (l5Some_calls w _ g a cap bs _ H3.out (by omega)).mono ?_
  rintro e w4 ⟨x2, rfl, hs4⟩
  have H4 := hid hs4
  clear hs4 H3
  go_wp2_with fail
  refine (l5Some_calls w _ g a cap bs _ H4.out (by omega)).mono ?_
  rintro e w5 ⟨x3, rfl, hs5⟩
  have H5 := hid hs5
  clear hs5 H4
  go_wp2_with fail
  refine (l1Pick_lit w _ g a cap bs _ 4 2 [x1, x2, x3, 137438953473] _ H5.out (by omega) rfl rfl (by omega) (by omega)).mono ?_
  rintro e w6 ⟨r3, rfl, _, hs6, _⟩
  have H6 := hid hs6
  clear hs6 H5
  go_wp2_with fail
  refine (l5Some_calls w _ g a cap bs _ H6.out (by omega)).mono ?_
  rintro e w7 ⟨x4, rfl, hs7⟩
  have H7 := hid hs7
  clear hs7 H6
  go_wp2_with fail
  refine (l5Some_calls w _ g a cap bs _ H7.out (by omega)).mono ?_
  rintro e w8 ⟨x5, rfl, hs8⟩
  have H8 := hid hs8
  clear hs8 H7
  go_wp2_with fail
  refine (l5Some_calls w _ g a cap bs _ H8.out (by omega)).mono ?_
  rintro e w9 ⟨x6, rfl, hs9⟩
  have H9 := hid hs9
  clear hs9 H8
  go_wp2_with fail
  refine (l1Pick_lit w _ g a cap bs _ 4 2 [x4, x5, x6, -137438953473] _ H9.out (by omega) rfl rfl (by omega) (by omega)).mono ?_
  rintro e w10 ⟨r4, rfl, _, hs10, _⟩
  have H10 := hid hs10.2.1
  clear hs10 H9
  go_wp2
  exact bodyPost_ret (v := .tuple #[.int .i64 r1, .int .i64 r2, .int .i64 r3, .int .i64 r4]) (by simp [results, Tryd.results41, go_sem]) rfl ⟨r1, r2, r3, r4, rfl, H10.out⟩
end Go.Proofs.YtbakmphopgkpmaaDoor.DrwP
