/- The draws of FnTens, whole: each from a source of its own. -/
import Derived.Test.YtjmcoipglgcomaaDraws
namespace Go.Proofs.Ytjmcoipglgcomaa.Draws2
open Go.ChangeShapes Go.WideShapes Go.ChangeAt Go.RowKit Go.Proofs.Ytjmcoipglgcomaa.Num Go.Proofs.Ytjmcoipglgcomaa.Sli Go.Proofs.Ytjmcoipglgcomaa.Src Go.Proofs.Ytjmcoipglgcomaa.Lists Go.Proofs.Ytjmcoipglgcomaa.Samples Go.Proofs.Ytjmcoipglgcomaa.Draws

set_option maxHeartbeats 1000000 in
theorem drawTenOf_calls (a : Option Addr) (cap : Nat) (bs : List Int) (w0 : World) (hsl : Sl .u8 w0 (.slice a bs.length cap) bs) (hbd : ∀ x ∈ bs, 0 ≤ x ∧ x ≤ 255) (hlen : bs.length ≤ 1048576) :
    Calls Try.prog 18 #[.slice a bs.length cap] w0 fun e w' => ∃ x : Int, e = .returned (.int .i64 x) ∧ Below w0.heap.size w0 w' := by
  have H := hid (l1Source_calls a cap bs w0 w0 (Below.refl _ _) hsl hbd hlen)
  clear hsl hbd hlen
  go_enter Try.func18, Try.ntmps18
  go_wp2_with fail
  refine H.out.mono ?_
  rintro e w1 ⟨g, rfl, hs1, _⟩
  have Hs1 := hid hs1
  clear hs1 H
  go_wp2_with fail
  refine (l1Signed_calls w0 _ g a cap bs 0 _ Hs1.out (by omega) (by omega) (by omega)).mono ?_
  rintro e w2 ⟨r2, rfl, _, _, hs2, _⟩
  have Hs2 := hid hs2
  clear hs2
  go_wp2_with fail
  refine (l1Signed_calls w0 _ g a cap bs _ _ Hs2.out (by omega) (by omega) (by omega)).mono ?_
  rintro e w3 ⟨r3, rfl, _, _, hs3, _⟩
  have Hs3 := hid hs3
  clear hs3
  go_wp2_with fail
  refine (l1Pick_lit w0 _ g a cap bs _ 12 2 [0, 511, 512, -512, -513, 1535, 1536, 1099511627776, -1099511627776, 1099511627777, r2, r3] _ Hs3.out (by omega) rfl rfl (by omega) (by omega)).mono ?_
  rintro e w4 ⟨r4, rfl, _, hs4, _⟩
  have Hb := hid hs4.2.1
  clear hs4
  go_wp2
  go_ret
  exact ⟨_, rfl, Hb.out⟩

set_option maxHeartbeats 1000000 in
theorem drawNormOf_calls (a : Option Addr) (cap : Nat) (bs : List Int) (w0 : World) (hsl : Sl .u8 w0 (.slice a bs.length cap) bs) (hbd : ∀ x ∈ bs, 0 ≤ x ∧ x ≤ 255) (hlen : bs.length ≤ 1048576) :
    Calls Try.prog 20 #[.slice a bs.length cap] w0 fun e w' => ∃ gl cl ys, e = .returned (.slice (some ⟨gl, 0, none⟩) ys.length cl) ∧ Own w0.heap.size w' gl cl ys ∧ ys.length ≤ 65 ∧ Below w0.heap.size w0 w' := by
  have H := hid (l1Source_calls a cap bs w0 w0 (Below.refl _ _) hsl hbd hlen)
  clear hsl hbd hlen
  go_enter Try.func20, Try.ntmps20
  go_wp2_with fail
  refine H.out.mono ?_
  rintro e w1 ⟨g, rfl, hs1, _⟩
  have Hs1 := hid hs1
  clear hs1 H
  go_wp2_with fail
  refine (l1Pick_lit w0 _ g a cap bs _ 7 2 [0, 1, 3, 5, 16, 64, 65] _ Hs1.out (by omega) rfl rfl (by omega) (by omega)).mono ?_
  rintro e w2 ⟨r, rfl, hr, hs2, _⟩
  have hr0 : 0 ≤ r ∧ r ≤ 65 := by simp at hr; omega
  obtain ⟨n, rfl⟩ := Int.eq_ofNat_of_zero_le hr0.1
  have Hs2 := hid hs2
  have hw2 := hs2.2.1.size
  clear hs2 hr
  go_wp2_with fail
  refine (l1DrawList_calls w0 _ g a cap bs _ n _ Hs2.out (by omega) (by omega) (by omega) (by omega)).mono ?_
  rintro e w3 ⟨gl, cl, ys, rfl, ho3, hyn, _, hs3, hg3⟩
  have hle := ho3.le
  have hgw := src_lt Hs2.out
  have hy65 : ys.length ≤ 65 := by omega
  have HO3 : Hid (Own w0.heap.size w3 gl cl ys) := by
    refine ⟨ho3.1, ?_⟩
    rcases ho3.2 with hx | ⟨g', cap', cur, hv, hg', hx⟩
    · exact Or.inl hx
    · exact Or.inr ⟨g', cap', cur, hv, by omega, hx⟩
  have HS3 := hid hs3
  clear ho3 hs3 hg3 Hs2 hyn
  by_cases hpos : 0 < ys.length
  · go_wp2_with fail
    refine (l1Chance_calls w0 _ g a cap bs _ _ HS3.out (by omega) (by omega) (by omega)).mono ?_
    rintro e w4 ⟨c, rfl, hs4, hg4⟩
    have HO4 := hid (HO3.out.kept hg4 (ne_some (by omega)))
    have HS4 := hid hs4
    have hw4 := hg4.size
    clear hs4 hg4 HO3 HS3
    cases c
    · go_wp2
      go_ret
      exact ⟨gl, cl, ys, rfl, HO4.out, hy65, HS4.out.2.1⟩
    · go_wp2_with fail
      refine (l1Pick_lit w0 _ g a cap bs _ 4 2 [1099511627776, -1099511627776, 1099511627777, -1099511627777] _ HS4.out (by omega) rfl rfl (by omega) (by omega)).mono ?_
      rintro e w5 ⟨r, rfl, _, hs5, hg5⟩
      have ho5 := (HO4.out.kept (grown_alloc w4 _ none) (by simp)).kept hg5 (ne_some (by omega))
      have hcell := own_cell ho5 0 (by omega)
      have hfr := own_frozen ho5 0
      have hset := own_set ho5 0 r
      have HO5 := hid hset.1
      have HB5 := hid (src_grown hs5 hset.2 (fun k e => by cases e; exact ⟨by omega, by omega⟩)).2.1
      clear hs5 hg5 HO4 HS4 hset ho5
      generalize ys.getD 0 0 = y at *
      go_wp2
      go_ret
      exact ⟨gl, cl, ys.set 0 r, by simp, HO5.out, by simp; omega, HB5.out⟩
  · have hy0 : ys.length = 0 := by omega
    go_wp2
    go_ret
    exact ⟨gl, cl, ys, by simp [hy0], HO3.out, hy65, HS3.out.2.1⟩

set_option maxHeartbeats 1000000 in
theorem drawSamplesFault_calls (a : Option Addr) (cap : Nat) (bs : List Int) (w0 : World) (hsl : Sl .u8 w0 (.slice a bs.length cap) bs) (hbd : ∀ x ∈ bs, 0 ≤ x ∧ x ≤ 255) (hlen : bs.length ≤ 1048576) :
    Calls Try.prog 22 #[.slice a bs.length cap] w0 fun e w' => ∃ sz gl cl ys, e = .returned (.tuple #[.int .i64 sz, .slice (some ⟨gl, 0, none⟩) ys.length cl]) ∧ Sl .i64 w' (.slice (some ⟨gl, 0, none⟩) ys.length cl) ys ∧ ys.length ≤ 21 ∧ Below w0.heap.size w0 w' := by
  have H := hid (l1Source_calls a cap bs w0 w0 (Below.refl _ _) hsl hbd hlen)
  clear hsl hbd hlen
  go_enter Try.func22, Try.ntmps22
  go_wp2_with fail
  refine H.out.mono ?_
  rintro e w1 ⟨g, rfl, hs1, _⟩
  have Hs1 := hid hs1
  clear hs1 H
  go_wp2_with fail
  refine (l1BentSize_calls w0 _ g a cap bs _ Hs1.out (by omega)).mono ?_
  rintro e w2 ⟨r, rfl, _, hs2, _⟩
  have Hs2 := hid hs2
  clear hs2
  go_wp2_with fail
  refine (l1BentSamples_calls w0 _ g a cap bs _ _ Hs2.out (by omega)).mono ?_
  rintro e w3 ⟨gl, cl, ys, at3, rfl, ho3, hyl, _, hs3, _⟩
  have HS := hid ho3.sl
  have HB := hid hs3.2.1
  clear ho3 hs3
  go_wp2
  go_ret2
  exact ⟨r, gl, cl, ys, rfl, HS.out, hyl, HB.out⟩
end Go.Proofs.Ytjmcoipglgcomaa.Draws2
