/- The draws of values. -/
import Derived.Test.YthecfboplfmdmaaDoorSrc
import Derived.Test.YthecfboplfmdmaaDoorApp
namespace Go.Proofs.YthecfboplfmdmaaDoor.DrwV
open Go.ChangeShapes Go.WideShapes Go.ChangeAt Go.RowKit Go.Proofs.YthecfboplfmdmaaDoor.Num Go.Proofs.YthecfboplfmdmaaDoor.Sli Go.Proofs.YthecfboplfmdmaaDoor.App Go.Proofs.YthecfboplfmdmaaDoor.Src

theorem grown_alloc (w : World) (o : Obj) (r : Option Nat) : w.grownBy (w.alloc o) r := ⟨rfl, rfl, rfl, by simp, fun k hk _ => Below.heap_alloc w o k hk⟩
set_option maxHeartbeats 1000000 in
theorem l4Draw_calls (w0 w : World) (g : Nat) (a : Option Addr) (cap : Nat) (bs : List Int) (at' : Nat) (h : Src w0 w g a cap bs at') (hat : at' ≤ 90000) :
    Calls Tryd.prog 44 #[.pointer (some ⟨g, 0, none⟩)] w fun e w' => ∃ r : Int, e = .returned (.int .i64 r) ∧ -65535 ≤ r ∧ r ≤ 65535 ∧ Src w0 w' g a cap bs (at' + 6) ∧ w.grownBy w' (some g) := by
  have H := hid h
  clear h
  go_enter Tryd.func44, Tryd.ntmps44
  go_wp2_with fail
  refine (l1Signed_calls w0 _ g a cap bs _ 3 H.out (by omega) (by omega) (by omega)).mono ?_
  rintro e w1 ⟨r1, rfl, l1, u1, hs1, hg1⟩
  have H1 := hid hs1
  have G1 := hid hg1
  clear hs1 hg1 H
  go_wp2_with fail
  refine (l1Signed_calls w0 _ g a cap bs _ 3 H1.out (by omega) (by omega) (by omega)).mono ?_
  rintro e w2 ⟨r2, rfl, l2, u2, hs2, hg2⟩
  have H2 := hid hs2
  have G2 := hid (grown_same G1.out hg2)
  clear hs2 hg2 H1 G1
  go_wp2_with fail
  refine (l1Signed_calls w0 _ g a cap bs _ 20 H2.out (by omega) (by omega) (by omega)).mono ?_
  rintro e w3 ⟨r3, rfl, l3, u3, hs3, hg3⟩
  have H3 := hid hs3
  have G3 := hid (grown_same G2.out hg3)
  clear hs3 hg3 H2 G2
  go_wp2_with fail
  refine (l1Signed_calls w0 _ g a cap bs _ 300 H3.out (by omega) (by omega) (by omega)).mono ?_
  rintro e w4 ⟨r4, rfl, l4, u4, hs4, hg4⟩
  have H4 := hid hs4
  have G4 := hid (grown_same G3.out hg4)
  clear hs4 hg4 H3 G3
  go_wp2_with fail
  refine (l1Signed_calls w0 _ g a cap bs _ 65535 H4.out (by omega) (by omega) (by omega)).mono ?_
  rintro e w5 ⟨r5, rfl, l5, u5, hs5, hg5⟩
  have H5 := hid hs5
  have G5 := hid (grown_same G4.out hg5)
  clear hs5 hg5 H4 G4
  go_wp2_with fail
  refine (l1Pick_lit w0 _ g a cap bs _ 12 2 [0, 0, 0, 1, -1, r1, r2, r3, r4, r5, 65535, -65535] _ H5.out (by omega) rfl rfl (by omega) (by omega)).mono ?_
  rintro e w6 ⟨r, rfl, hr, hs6, hg6⟩
  have hr' : -65535 ≤ r ∧ r ≤ 65535 := by
    simp only [List.mem_cons, List.mem_nil_iff, or_false] at hr
    omega
  have H6 := hid hs6
  have G6 := hid (grown_same (grown_same G5.out (grown_alloc _ _ _)) hg6)
  clear hs6 hg6 H5 G5 hr
  go_wp2
  go_ret
  exact ⟨r, rfl, hr'.1, hr'.2, H6.out, G6.out⟩
end Go.Proofs.YthecfboplfmdmaaDoor.DrwV
