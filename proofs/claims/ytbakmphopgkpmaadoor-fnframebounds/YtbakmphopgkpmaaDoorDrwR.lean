/- The draws of chapter 8's pairs: numbers within bounds are told. Conditions: those of the source. -/
import Derived.Test.YtbakmphopgkpmaaDoorDrwP
import Derived.Test.YtbakmphopgkpmaaDoorGe
namespace Go.Proofs.YtbakmphopgkpmaaDoor.DrwR
open Go.ChangeShapes Go.WideShapes Go.ChangeAt Go.RowKit Go.Proofs.YtbakmphopgkpmaaDoor.Num Go.Proofs.YtbakmphopgkpmaaDoor.Sli Go.Proofs.YtbakmphopgkpmaaDoor.App Go.Proofs.YtbakmphopgkpmaaDoor.Src Go.Proofs.YtbakmphopgkpmaaDoor.DrwP
open Go.Proofs.YtbakmphopgkpmaaDoor.Lists (grown_alloc)
set_option maxHeartbeats 1000000 in
theorem l5Some_bd (w0 w : World) (g : Nat) (a : Option Addr) (cap : Nat) (bs : List Int) (at' : Nat) (h : Src w0 w g a cap bs at') (hat : at' ≤ 90000) :
    Calls Tryd.prog 90 #[.pointer (some ⟨g, 0, none⟩)] w fun e w' => ∃ r : Int, e = .returned (.int .i64 r) ∧ (-137438953472 ≤ r ∧ r ≤ 137438953472) ∧ Src w0 w' g a cap bs (at' + 5) := by
  have H := hid h
  clear h
  go_enter Tryd.func90, Tryd.ntmps90
  go_wp2_with fail
  refine (l1Signed_calls w0 _ g a cap bs _ 9 H.out (by omega) (by omega) (by omega)).mono ?_
  rintro e w1 ⟨r1, rfl, x1, y1, hs1, _⟩
  have H1 := hid hs1
  clear hs1 H
  go_wp2_with fail
  refine (l1Signed_calls w0 _ g a cap bs _ 9 H1.out (by omega) (by omega) (by omega)).mono ?_
  rintro e w2 ⟨r2, rfl, x2, y2, hs2, _⟩
  have H2 := hid hs2
  clear hs2 H1
  go_wp2_with fail
  refine (l1Signed_calls w0 _ g a cap bs _ 40000 H2.out (by omega) (by omega) (by omega)).mono ?_
  rintro e w3 ⟨r3, rfl, x3, y3, hs3, _⟩
  have H3 := hid hs3
  clear hs3 H2
  go_wp2_with fail
  refine (l1Signed_calls w0 _ g a cap bs _ 40000 H3.out (by omega) (by omega) (by omega)).mono ?_
  rintro e w4 ⟨r4, rfl, x4, y4, hs4, _⟩
  have H4 := hid hs4
  clear hs4 H3
  go_wp2_with fail
  refine (l1Pick_lit w0 _ g a cap bs _ 9 2 [0, 1, -1, r1, r2, r3, r4, 137438953472, -137438953472] _ H4.out (by omega) rfl rfl (by omega) (by omega)).mono ?_
  rintro e w6 ⟨r, rfl, hr, hs6, _⟩
  have HR : Hid (-137438953472 ≤ r ∧ r ≤ 137438953472) := by simp at hr; show _ ∧ _; omega
  have H6 := hid hs6
  clear hs6 H4 hr
  go_wp2
  go_ret
  exact ⟨r, rfl, HR.out, H6.out⟩
set_option maxHeartbeats 2000000 in
theorem drawTurnPair_bd (a : Option Addr) (cap : Nat) (bs : List Int) (w : World) (hsl : Sl .u8 w (.slice a bs.length cap) bs) (hbd : ∀ x ∈ bs, 0 ≤ x ∧ x ≤ 255) (hlen : bs.length ≤ 1048576) :
    Calls Tryd.prog 41 #[.slice a bs.length cap] w fun e w' => ∃ r1 r2 r3 r4 : Int, e = .returned (.tuple #[.int .i64 r1, .int .i64 r2, .int .i64 r3, .int .i64 r4]) ∧ (-137438953473 ≤ r3 ∧ r3 ≤ 137438953473) ∧ (-137438953473 ≤ r4 ∧ r4 ≤ 137438953473) ∧ Below w.heap.size w w' := by
  have HS := hid (l1Source_calls a cap bs w w (Below.refl _ _) hsl hbd hlen)
  have HD := hid (fun W (hb : Below w.heap.size w W) => drawTurnOf_calls a cap bs W (hsl.later hb) hbd hlen)
  clear hsl hbd
  go_enter Tryd.func41, Tryd.ntmps41
  go_wp2_with fail
  refine HS.out.mono ?_
  rintro e w1 ⟨g, rfl, hs1, _⟩
  have H1 := hid hs1
  clear hs1 HS
  go_wp2_with fail
  refine (HD.out _ H1.out.2.1).mono ?_
  rintro e w2 ⟨r1, r2, rfl, hb2⟩
  have H2 := hid (src_later H1.out hb2)
  clear hb2 H1 HD
  go_wp2_with fail
  refine (l5Some_bd w _ g a cap bs _ H2.out (by omega)).mono ?_
  rintro e w3 ⟨x1, rfl, q1, hs3⟩
  have H3 := hid hs3
  clear hs3 H2
  go_wp2_with fail
  refine (l5Some_bd w _ g a cap bs _ H3.out (by omega)).mono ?_
  rintro e w4 ⟨x2, rfl, q2, hs4⟩
  have H4 := hid hs4
  clear hs4 H3
  go_wp2_with fail
  refine (l5Some_bd w _ g a cap bs _ H4.out (by omega)).mono ?_
  rintro e w5 ⟨x3, rfl, q3, hs5⟩
  have H5 := hid hs5
  clear hs5 H4
  go_wp2_with fail
  refine (l1Pick_lit w _ g a cap bs _ 4 2 [x1, x2, x3, 137438953473] _ H5.out (by omega) rfl rfl (by omega) (by omega)).mono ?_
  rintro e w6 ⟨r3, rfl, hr, hs6, _⟩
  have HR3 : Hid (-137438953473 ≤ r3 ∧ r3 ≤ 137438953473) := by simp at hr; show _ ∧ _; omega
  have H6 := hid hs6
  clear hs6 H5 hr
  go_wp2_with fail
  refine (l5Some_bd w _ g a cap bs _ H6.out (by omega)).mono ?_
  rintro e w7 ⟨x4, rfl, q4, hs7⟩
  have H7 := hid hs7
  clear hs7 H6
  go_wp2_with fail
  refine (l5Some_bd w _ g a cap bs _ H7.out (by omega)).mono ?_
  rintro e w8 ⟨x5, rfl, q5, hs8⟩
  have H8 := hid hs8
  clear hs8 H7
  go_wp2_with fail
  refine (l5Some_bd w _ g a cap bs _ H8.out (by omega)).mono ?_
  rintro e w9 ⟨x6, rfl, q6, hs9⟩
  have H9 := hid hs9
  clear hs9 H8
  go_wp2_with fail
  refine (l1Pick_lit w _ g a cap bs _ 4 2 [x4, x5, x6, -137438953473] _ H9.out (by omega) rfl rfl (by omega) (by omega)).mono ?_
  rintro e w10 ⟨r4, rfl, hr, hs10, _⟩
  have HR4 : Hid (-137438953473 ≤ r4 ∧ r4 ≤ 137438953473) := by simp at hr; show _ ∧ _; omega
  have H10 := hid hs10.2.1
  clear hs10 H9 hr
  go_wp2
  exact bodyPost_ret (v := .tuple #[.int .i64 r1, .int .i64 r2, .int .i64 r3, .int .i64 r4]) (by simp [results, Tryd.results41, go_sem]) rfl ⟨r1, r2, r3, r4, rfl, HR3.out, HR4.out, H10.out⟩
theorem drawBackPair_bd (a : Option Addr) (cap : Nat) (bs : List Int) (w : World) (hsl : Sl .u8 w (.slice a bs.length cap) bs) (hbd : ∀ x ∈ bs, 0 ≤ x ∧ x ≤ 255) (hlen : bs.length ≤ 1048576) :
    Calls Tryd.prog 10 #[.slice a bs.length cap] w fun e w' => ∃ r1 r2 r3 r4 : Int, e = .returned (.tuple #[.int .i64 r1, .int .i64 r2, .int .i64 r3, .int .i64 r4]) ∧ (-137438953473 ≤ r3 ∧ r3 ≤ 137438953473) ∧ (-137438953473 ≤ r4 ∧ r4 ≤ 137438953473) ∧ Below w.heap.size w w' := by
  have HD := hid (drawTurnPair_bd a cap bs w hsl hbd hlen)
  clear hsl hbd
  go_enter Tryd.func10, Tryd.ntmps10
  go_wp2_with fail
  refine HD.out.mono ?_
  rintro e w2 ⟨r1, r2, r3, r4, rfl, h3, h4, hb2⟩
  have H2 := hid hb2
  have H3 := hid h3
  have H4 := hid h4
  clear hb2 HD h3 h4
  go_wp2
  exact bodyPost_ret (v := .tuple #[.int .i64 r1, .int .i64 r2, .int .i64 r3, .int .i64 r4]) (by simp [results, Tryd.results10, go_sem]) rfl ⟨r1, r2, r3, r4, rfl, H3.out, H4.out, H2.out⟩
theorem l8Some_calls (w0 w : World) (g : Nat) (a : Option Addr) (cap : Nat) (bs : List Int) (at' : Nat) (h : Src w0 w g a cap bs at') (hat : at' ≤ 90000) :
    Calls Tryd.prog 45 #[.pointer (some ⟨g, 0, none⟩)] w fun e w' => ∃ r : Int, e = .returned (.int .i64 r) ∧ (0 ≤ r ∧ r ≤ 40000) ∧ Src w0 w' g a cap bs (at' + 4) ∧ w.grownBy w' (some g) := by
  have H := hid h
  clear h
  go_enter Tryd.func45, Tryd.ntmps45
  go_wp2_with fail
  refine (l1Next_calls w0 _ g a cap bs _ 9 H.out (by omega) (by omega) (by omega)).mono ?_
  rintro e w1 ⟨r1, rfl, x1, y1, hs1, hg1⟩
  have H1 := hid hs1
  have G1 := hid hg1
  clear hs1 H hg1
  go_wp2_with fail
  refine (l1Next_calls w0 _ g a cap bs _ 500 H1.out (by omega) (by omega) (by omega)).mono ?_
  rintro e w2 ⟨r2, rfl, x2, y2, hs2, hg2⟩
  have H2 := hid hs2
  have G2 := hid (grown_same G1.out hg2)
  clear hs2 H1 hg2 G1
  go_wp2_with fail
  refine (l1Next_calls w0 _ g a cap bs _ 40000 H2.out (by omega) (by omega) (by omega)).mono ?_
  rintro e w3 ⟨r3, rfl, x3, y3, hs3, hg3⟩
  have H3 := hid hs3
  have G3 := hid (grown_same G2.out hg3)
  clear hs3 H2 hg3 G2
  go_wp2_with fail
  refine (l1Pick_lit w0 _ g a cap bs _ 7 2 [0, 0, 1, 2, r1, r2, r3] _ H3.out (by omega) rfl rfl (by omega) (by omega)).mono ?_
  rintro e w6 ⟨r, rfl, hr, hs6, hg6⟩
  have HR : Hid (0 ≤ r ∧ r ≤ 40000) := by simp at hr; show _ ∧ _; omega
  have H6 := hid hs6
  have G6 := hid (grown_same (grown_same G3.out (grown_alloc _ _ _)) hg6)
  clear hs6 H3 hr hg6 G3
  go_wp2
  go_ret
  exact ⟨r, rfl, HR.out, H6.out, G6.out⟩
set_option maxHeartbeats 2000000 in
theorem drawTurnBounds_calls (a : Option Addr) (cap : Nat) (bs : List Int) (w : World) (hsl : Sl .u8 w (.slice a bs.length cap) bs) (hbd : ∀ x ∈ bs, 0 ≤ x ∧ x ≤ 255) (hlen : bs.length ≤ 1048576) :
    Calls Tryd.prog 11 #[.slice a bs.length cap] w fun e w' => ∃ r1 r2 r3 r4 : Int, e = .returned (.tuple #[.int .i64 r1, .int .i64 r2, .int .i64 r3, .int .i64 r4]) ∧ (-1 ≤ r3 ∧ r3 ≤ 137438953473) ∧ (-1 ≤ r4 ∧ r4 ≤ 137438953473) ∧ Below w.heap.size w w' := by
  have HS := hid (l1Source_calls a cap bs w w (Below.refl _ _) hsl hbd hlen)
  have HD := hid (fun W (hb : Below w.heap.size w W) => drawTurnOf_calls a cap bs W (hsl.later hb) hbd hlen)
  clear hsl hbd
  go_enter Tryd.func11, Tryd.ntmps11
  go_wp2_with fail
  refine HS.out.mono ?_
  rintro e w1 ⟨g, rfl, hs1, _⟩
  have H1 := hid hs1
  clear hs1 HS
  go_wp2_with fail
  refine (HD.out _ H1.out.2.1).mono ?_
  rintro e w2 ⟨r1, r2, rfl, hb2⟩
  have H2 := hid (src_later H1.out hb2)
  clear hb2 H1 HD
  go_wp2_with fail
  refine (l8Some_calls w _ g a cap bs _ H2.out (by omega)).mono ?_
  rintro e w3 ⟨x1, rfl, q1, hs3, _⟩
  have H3 := hid hs3
  clear hs3 H2
  go_wp2_with fail
  refine (l8Some_calls w _ g a cap bs _ H3.out (by omega)).mono ?_
  rintro e w4 ⟨x2, rfl, q2, hs4, _⟩
  have H4 := hid hs4
  clear hs4 H3
  go_wp2_with fail
  refine (l8Some_calls w _ g a cap bs _ H4.out (by omega)).mono ?_
  rintro e w5 ⟨x3, rfl, q3, hs5, _⟩
  have H5 := hid hs5
  clear hs5 H4
  go_wp2_with fail
  refine (l1Pick_lit w _ g a cap bs _ 6 2 [x1, x2, x3, 137438953472, 137438953473, -1] _ H5.out (by omega) rfl rfl (by omega) (by omega)).mono ?_
  rintro e w6 ⟨r3, rfl, hr, hs6, _⟩
  have HR3 : Hid (-1 ≤ r3 ∧ r3 ≤ 137438953473) := by simp at hr; show _ ∧ _; omega
  have H6 := hid hs6
  clear hs6 H5 hr
  go_wp2_with fail
  refine (l8Some_calls w _ g a cap bs _ H6.out (by omega)).mono ?_
  rintro e w7 ⟨x4, rfl, q4, hs7, _⟩
  have H7 := hid hs7
  clear hs7 H6
  go_wp2_with fail
  refine (l8Some_calls w _ g a cap bs _ H7.out (by omega)).mono ?_
  rintro e w8 ⟨x5, rfl, q5, hs8, _⟩
  have H8 := hid hs8
  clear hs8 H7
  go_wp2_with fail
  refine (l8Some_calls w _ g a cap bs _ H8.out (by omega)).mono ?_
  rintro e w9 ⟨x6, rfl, q6, hs9, _⟩
  have H9 := hid hs9
  clear hs9 H8
  go_wp2_with fail
  refine (l1Pick_lit w _ g a cap bs _ 5 2 [x4, x5, x6, 137438953472, -1] _ H9.out (by omega) rfl rfl (by omega) (by omega)).mono ?_
  rintro e w10 ⟨r4, rfl, hr, hs10, _⟩
  have HR4 : Hid (-1 ≤ r4 ∧ r4 ≤ 137438953473) := by simp at hr; show _ ∧ _; omega
  have H10 := hid hs10.2.1
  clear hs10 H9 hr
  go_wp2
  exact bodyPost_ret (v := .tuple #[.int .i64 r1, .int .i64 r2, .int .i64 r3, .int .i64 r4]) (by simp [results, Tryd.results11, go_sem]) rfl ⟨r1, r2, r3, r4, rfl, HR3.out, HR4.out, H10.out⟩
end Go.Proofs.YtbakmphopgkpmaaDoor.DrwR
