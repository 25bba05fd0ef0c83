/- The draws of values. -/
import Derived.Test.YtionfgcdgflcjaaSrc
import Derived.Test.YtionfgcdgflcjaaApp
namespace Go.Proofs.Ytionfgcdgflcjaa.DrwV
open Go.ChangeShapes Go.WideShapes Go.ChangeAt Go.RowKit Go.Proofs.Ytionfgcdgflcjaa.Num Go.Proofs.Ytionfgcdgflcjaa.Sli Go.Proofs.Ytionfgcdgflcjaa.App Go.Proofs.Ytionfgcdgflcjaa.Src

theorem grown_alloc (w : World) (o : Obj) (r : Option Nat) : w.grownBy (w.alloc o) r := ⟨rfl, rfl, rfl, by simp, fun k hk _ => Below.heap_alloc w o k hk⟩
set_option maxHeartbeats 1000000 in
theorem l4Draw_calls (w0 w : World) (g : Nat) (a : Option Addr) (cap : Nat) (bs : List Int) (at' : Nat) (h : Src w0 w g a cap bs at') (hat : at' ≤ 90000) :
    Calls Try.prog 27 #[.pointer (some ⟨g, 0, none⟩)] w fun e w' => ∃ r : Int, e = .returned (.int .i64 r) ∧ -65535 ≤ r ∧ r ≤ 65535 ∧ Src w0 w' g a cap bs (at' + 6) ∧ w.grownBy w' (some g) := by
  have H := hid h
  clear h
  go_enter Try.func27, Try.ntmps27
  go_wp2_with fail
  refine (l1Signed_calls w0 _ g a cap bs _ 3 H.out (by omega) (by omega) (by omega)).mono ?_
  rintro e w1 ⟨r1, rfl, l1, u1, hs1, hg1⟩
  have H1 := hid hs1
  have G1 := hid hg1
  clear hs1 hg1 H
  go_wp2_with fail
  refine (l1Signed_calls w0 _ g a cap bs _ 3 H1.out (by omega) (by omega) (by omega)).mono ?_
  rintro e w2 ⟨r2, rfl, l2, u2, hs2, hg2⟩
  have H2 := hid hs2
  have G2 := hid (grown_same G1.out hg2)
  clear hs2 hg2 H1 G1
  go_wp2_with fail
  refine (l1Signed_calls w0 _ g a cap bs _ 20 H2.out (by omega) (by omega) (by omega)).mono ?_
  rintro e w3 ⟨r3, rfl, l3, u3, hs3, hg3⟩
  have H3 := hid hs3
  have G3 := hid (grown_same G2.out hg3)
  clear hs3 hg3 H2 G2
  go_wp2_with fail
  refine (l1Signed_calls w0 _ g a cap bs _ 300 H3.out (by omega) (by omega) (by omega)).mono ?_
  rintro e w4 ⟨r4, rfl, l4, u4, hs4, hg4⟩
  have H4 := hid hs4
  have G4 := hid (grown_same G3.out hg4)
  clear hs4 hg4 H3 G3
  go_wp2_with fail
  refine (l1Signed_calls w0 _ g a cap bs _ 65535 H4.out (by omega) (by omega) (by omega)).mono ?_
  rintro e w5 ⟨r5, rfl, l5, u5, hs5, hg5⟩
  have H5 := hid hs5
  have G5 := hid (grown_same G4.out hg5)
  clear hs5 hg5 H4 G4
  go_wp2_with fail
  refine (l1Pick_lit w0 _ g a cap bs _ 12 2 [0, 0, 0, 1, -1, r1, r2, r3, r4, r5, 65535, -65535] _ H5.out (by omega) rfl rfl (by omega) (by omega)).mono ?_
  rintro e w6 ⟨r, rfl, hr, hs6, hg6⟩
  have hr' : -65535 ≤ r ∧ r ≤ 65535 := by
    simp only [List.mem_cons, List.mem_nil_iff, or_false] at hr
    omega
  have H6 := hid hs6
  have G6 := hid (grown_same (grown_same G5.out (grown_alloc _ _ _)) hg6)
  clear hs6 hg6 H5 G5 hr
  go_wp2
  go_ret
  exact ⟨r, rfl, hr'.1, hr'.2, H6.out, G6.out⟩
theorem drawZig_calls (a : Option Addr) (cap : Nat) (bs : List Int) (w0 w : World) (hb : Below w0.heap.size w0 w) (hsl : Sl .u8 w0 (.slice a bs.length cap) bs) (hbd : ∀ x ∈ bs, 0 ≤ x ∧ x ≤ 255) (hlen : bs.length ≤ 1048576) :
    Calls Try.prog 9 #[.slice a bs.length cap] w fun e w' => ∃ r : Int, e = .returned (.int .i64 r) ∧ Below w.heap.size w w' := by
  have HS := hid (l1Source_calls a cap bs w w (Below.refl _ _) (hsl.later hb) hbd hlen)
  clear hsl hbd hb
  go_enter Try.func9, Try.ntmps9
  go_wp2_with fail
  refine HS.out.mono ?_
  rintro e w1 ⟨g, rfl, hs1, _⟩
  have H1 := hid hs1
  clear hs1 HS
  go_wp2_with fail
  refine (l4Draw_calls w _ g a cap bs _ H1.out (by omega)).mono ?_
  rintro e w2 ⟨r2, rfl, _, _, hs2, _⟩
  have H2 := hid hs2
  clear hs2 H1
  go_wp2_with fail
  refine (l4Draw_calls w _ g a cap bs _ H2.out (by omega)).mono ?_
  rintro e w3 ⟨r3, rfl, _, _, hs3, _⟩
  have H3 := hid hs3
  clear hs3 H2
  go_wp2_with fail
  refine (l1Pick_lit w _ g a cap bs _ 4 2 [r2, r3, 65536, -65536] _ H3.out (by omega) rfl rfl (by omega) (by omega)).mono ?_
  rintro e w4 ⟨r, rfl, _, hs4, _⟩
  have H4 := hid hs4.2.1
  clear hs4 H3
  go_wp2
  go_ret
  exact ⟨r, rfl, H4.out⟩
theorem drawClass_calls (a : Option Addr) (cap : Nat) (bs : List Int) (w0 w : World) (hb : Below w0.heap.size w0 w) (hsl : Sl .u8 w0 (.slice a bs.length cap) bs) (hbd : ∀ x ∈ bs, 0 ≤ x ∧ x ≤ 255) (hlen : bs.length ≤ 1048576) :
    Calls Try.prog 12 #[.slice a bs.length cap] w fun e w' => ∃ r : Int, e = .returned (.int .i64 r) ∧ Below w.heap.size w w' := by
  have HS := hid (l1Source_calls a cap bs w w (Below.refl _ _) (hsl.later hb) hbd hlen)
  clear hsl hbd hb
  go_enter Try.func12, Try.ntmps12
  go_wp2_with fail
  refine HS.out.mono ?_
  rintro e w1 ⟨g, rfl, hs1, _⟩
  have H1 := hid hs1
  clear hs1 HS
  go_wp2_with fail
  refine (l1Next_calls w _ g a cap bs _ 18 H1.out (by omega) (by omega) (by omega)).mono ?_
  rintro e w2 ⟨r2, rfl, _, _, hs2, _⟩
  have H2 := hid hs2
  clear hs2 H1
  go_wp2_with fail
  refine (l1Pick_lit w _ g a cap bs _ 8 2 [0, 1, 5, 6, 17, 18, -1, r2] _ H2.out (by omega) rfl rfl (by omega) (by omega)).mono ?_
  rintro e w4 ⟨r, rfl, _, hs4, _⟩
  have H4 := hid hs4.2.1
  clear hs4 H2
  go_wp2
  go_ret
  exact ⟨r, rfl, H4.out⟩
theorem drawUnzig_calls (a : Option Addr) (cap : Nat) (bs : List Int) (w0 w : World) (hb : Below w0.heap.size w0 w) (hsl : Sl .u8 w0 (.slice a bs.length cap) bs) (hbd : ∀ x ∈ bs, 0 ≤ x ∧ x ≤ 255) (hlen : bs.length ≤ 1048576) :
    Calls Try.prog 14 #[.slice a bs.length cap] w fun e w' => ∃ r : Int, e = .returned (.int .i64 r) ∧ Below w.heap.size w w' := by
  have HS := hid (l1Source_calls a cap bs w w (Below.refl _ _) (hsl.later hb) hbd hlen)
  clear hsl hbd hb
  go_enter Try.func14, Try.ntmps14
  go_wp2_with fail
  refine HS.out.mono ?_
  rintro e w1 ⟨g, rfl, hs1, _⟩
  have H1 := hid hs1
  clear hs1 HS
  go_wp2_with fail
  refine (l1Next_calls w _ g a cap bs _ 131071 H1.out (by omega) (by omega) (by omega)).mono ?_
  rintro e w2 ⟨r2, rfl, _, _, hs2, _⟩
  have H2 := hid hs2
  clear hs2 H1
  go_wp2_with fail
  refine (l1Next_calls w _ g a cap bs _ 40 H2.out (by omega) (by omega) (by omega)).mono ?_
  rintro e w3 ⟨r3, rfl, _, _, hs3, _⟩
  have H3 := hid hs3
  clear hs3 H2
  go_wp2_with fail
  refine (l1Pick_lit w _ g a cap bs _ 8 2 [0, 1, 2, 131070, 131071, -1, r2, r3] _ H3.out (by omega) rfl rfl (by omega) (by omega)).mono ?_
  rintro e w4 ⟨r, rfl, _, hs4, _⟩
  have H4 := hid hs4.2.1
  clear hs4 H3
  go_wp2
  go_ret
  exact ⟨r, rfl, H4.out⟩
end Go.Proofs.Ytionfgcdgflcjaa.DrwV
