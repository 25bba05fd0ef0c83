/- What FnFinest draws: a list of at most 65 coefficients in new memory, and most. Conditions: those of the source. -/
import Derived.Test.YtfmgdhpadamlkaaLadD
import Derived.Test.YtfmgdhpadamlkaaGe
namespace Go.Proofs.Ytfmgdhpadamlkaa.LadE
open Go.ChangeShapes Go.WideShapes Go.ChangeAt Go.RowKit Go.Proofs.Ytfmgdhpadamlkaa.Num Go.Proofs.Ytfmgdhpadamlkaa.Sli Go.Proofs.Ytfmgdhpadamlkaa.Src Go.Proofs.Ytfmgdhpadamlkaa.Lists Go.Proofs.Ytfmgdhpadamlkaa.Draws Go.Proofs.Ytfmgdhpadamlkaa.IntL Go.Proofs.Ytfmgdhpadamlkaa.LadD

set_option maxRecDepth 100000 in
set_option maxHeartbeats 2000000 in
theorem drawFinestRung_calls (a : Option Addr) (cap : Nat) (bs : List Int) (w0 : World) (hsl : Sl .u8 w0 (.slice a bs.length cap) bs) (hbd : ∀ x ∈ bs, 0 ≤ x ∧ x ≤ 255) (hlen : bs.length ≤ 1048576) :
    Calls Try.prog 5 #[.slice a bs.length cap] w0 fun e w' => ∃ (gl cl : Nat) (ys : List Int) (m : Int), e = .returned (.tuple #[.slice (some ⟨gl, 0, none⟩) ys.length cl, .int .i64 m]) ∧ OwI w0.heap.size w' (.slice (some ⟨gl, 0, none⟩) ys.length cl) ys ∧ ys.length ≤ 65 ∧ Below w0.heap.size w0 w' := by
  obtain ⟨i0, hi, hz0, hz1, hz2⟩ := info_parts Lists.infoI
  have H := hid (l1Source_calls a cap bs w0 w0 (Below.refl _ _) hsl hbd hlen)
  clear hsl hbd hlen
  go_enter Try.func5, Try.ntmps5
  go_wp2_with fail
  refine H.out.mono ?_
  rintro e w1 ⟨g, rfl, hs1, _⟩
  have hgw := src_lt hs1
  have hw0 := hs1.2.1.size
  have Hs1 := hid (src_alloc hs1 (.cells #[] 2))
  have Ho1 := hid (own_new w1)
  have HP := l1Pick_lit w0 _ g a cap bs _ 7 2 [0, 1, 3, 8, 16, 64, 65] #[.int .i64 0, .int .i64 1, .int .i64 3, .int .i64 8, .int .i64 16, .int .i64 64, .int .i64 65] Hs1.out (by omega) rfl rfl (by omega) (by omega)
  rw [World.size_alloc] at HP
  have HP := hid HP
  clear hs1 H
  go_wp2_with fail
  refine HP.out.mono ?_
  rintro e w2 ⟨r, rfl, hr, hs2, hg2⟩
  have hr0 : 0 ≤ r ∧ r ≤ 65 := by simp at hr; omega
  obtain ⟨n, rfl⟩ := Int.eq_ofNat_of_zero_le hr0.1
  have Ho2 := hid ((Ho1.out.kept (grown_alloc _ _ none) (by simp)).kept hg2 (by simp; omega))
  have Hs2 := hid hs2
  clear hs2 hr hg2 Hs1 Ho1
  go_wp2_with fail
  go_loopw [5, 6] (fun v nv wr => ∃ (k gl cl : Nat) (ys : List Int), nv = .int .i64 k ∧ v = .slice (some ⟨gl, 0, none⟩) ys.length cl ∧ Hid (k + ys.length = n) ∧ Hid (Lists.Own w1.heap.size wr gl cl ys) ∧ Hid (Src w0 wr g a cap bs (0 + 1 + 4 * ys.length))) (fun _ nv _ => (intOf nv).toNat)
  case atStart => exact ⟨n, _, 0, [], rfl, rfl, by simp [Hid], Ho2.out, Hs2.out⟩
  case round =>
    obtain ⟨k, gl, cl, ys, rfl, rfl, hkn, hown, hsrc⟩ := hrel
    clear Ho2 Hs2
    by_cases hk : 0 < k
    · obtain ⟨k', rfl⟩ : ∃ k', k = k' + 1 := ⟨k - 1, by omega⟩
      have hyl : ys.length ≤ n := by have := hkn.out; omega
      have hkb : k' ≤ 1000 := by have := hkn.out; omega
      go_wp2_with fail
      refine (l9DrawCoef_calls w0 _ g a cap bs _ hsrc.out (by omega)).mono ?_
      rintro e w3 ⟨r, rfl, hs3, hg3⟩
      have hle := hown.out.le
      have hsz := hg3.size
      have Ho := hid (hown.out.kept hg3 (by simp; omega))
      have Hs := hid hs3
      clear hs3 hg3 hown hsrc
      go_wp2_with (at_builtin; refine wpList_append_lies _ rfl _ _ 24 rfl w1.heap.size 2 i0 (.int .i64 0) 1 8 Try.underlying24 hi hz0 hz1 hz2 rfl (by decide) _ ys.length _ rfl (World.ownsRow.alloc Ho.out _) ⟨w3.heap.size, 0, none⟩ 1 1 [.int .i64 r] rfl rfl ?c1 ?c2 (by decide) ?c3 ?c4 ?c5 (w3.heap.size + 1) ?c6 ?_)
      case c1 =>
        intro j u hj
        match j, hj with
        | 0, hj => simp at hj; subst hj; simp [Addr.add]
      case c2 => intro u hu; simp at hu; subst hu; rfl
      case c3 => unfold maxLen; omega
      case c4 => omega
      case c5 => simp; omega
      case c6 => simp
      intro g2 cap2 w4 hown2 hgrow2 hat2 hlt2
      have hs4 := src_grown (src_alloc Hs.out _) hgrow2 (fun j e => by cases e; exact ⟨by show gl ≠ g; omega, by show w0.heap.size ≤ gl; omega⟩)
      have Ho2 := hid (own_snoc hown2)
      have Hs4 := hid hs4
      clear hs4 hown2 hgrow2 hat2 hlt2
      go_wp2
      go_roundw
      case rel => exact ⟨k', g2, cap2, ys ++ [r], by go_num, by simp, by have := hkn.out; unfold Hid; simp; omega, Ho2.out, by rw [List.length_append, show 0 + 1 + 4 * (ys.length + [r].length) = 0 + 1 + 4 * ys.length + 4 by simp; omega]; exact Hs4.out⟩
      case measure => simp [intOf]
    · have hk0 : k = 0 := by omega
      subst hk0
      have hyn : ys.length = n := by have := hkn.out; omega
      have hle := hown.out.le
      have hy65 : ys.length ≤ 65 := by omega
      clear hkn
      by_cases hpos : 0 < ys.length
      · go_wp2_with fail
        refine (l1Chance_calls w0 _ g a cap bs _ _ hsrc.out (by omega) (by omega) (by omega)).mono ?_
        rintro e w5 ⟨c, rfl, hs5, hg5⟩
        have Ho5 := hid (hown.out.kept hg5 (by simp; omega))
        have Hs5 := hid hs5
        clear hs5 hg5 hown hsrc
        cases c
        · go_wp2_with fail
          refine (l1Pick_lit w0 _ g a cap bs _ 8 2 [0, 1, 7, 100, 30000, 65535, 65536, -1] _ Hs5.out (by omega) rfl rfl (by omega) (by omega)).mono ?_
          rintro e w6 ⟨r6, rfl, _, hs6, hg6⟩
          have Ho6 := hid ((Ho5.out.kept (grown_alloc _ _ none) (by simp)).kept hg6 (by simp; omega))
          have Hb6 := hid hs6.2.1
          clear hs6 hg6 Ho5 Hs5
          go_wp2
          go_ret2
          exact ⟨gl, cl, ys, r6, by first | rfl | (rw [hyn]; rfl) | (rw [hy0]; rfl), App.Ow.mono Ho6.out hw0, hy65, Hb6.out⟩
        · have hcell := own_cell Ho5.out 0 hpos
          have hfr := own_frozen Ho5.out 0
          have hset := own_set Ho5.out 0 16777217
          have Ho7 := hid hset.1
          have Hs7 := hid (src_grown Hs5.out hset.2 (fun j e => by cases e; exact ⟨by omega, by omega⟩))
          clear hset Ho5 Hs5
          generalize ys.getD 0 0 = y at *
          have hl2 : (ys.set 0 16777217).length = ys.length := List.length_set
          have HP7 := l1Pick_lit w0 _ g a cap bs _ 8 2 [0, 1, 7, 100, 30000, 65535, 65536, -1] #[.int .i64 0, .int .i64 1, .int .i64 7, .int .i64 100, .int .i64 30000, .int .i64 65535, .int .i64 65536, .int .i64 (-1)] Hs7.out (by omega) rfl rfl (by omega) (by omega)
          rw [World.size_setCell] at HP7
          have HP7 := hid HP7
          go_wp2_with fail
          refine HP7.out.mono ?_
          rintro e w6 ⟨r6, rfl, _, hs6, hg6⟩
          have Ho6 := hid ((Ho7.out.kept (grown_alloc _ _ none) (by simp)).kept hg6 (by simp; omega))
          have Hb6 := hid hs6.2.1
          clear hs6 hg6 Ho7 Hs7
          go_wp2
          go_ret2
          exact ⟨gl, cl, ys.set 0 16777217, r6, by rw [hl2]; first | rfl | (rw [hyn]; rfl), App.Ow.mono Ho6.out hw0, by omega, Hb6.out⟩
      · have hy0 : ys.length = 0 := by omega
        go_wp2_with fail
        refine (l1Pick_lit w0 _ g a cap bs _ 8 2 [0, 1, 7, 100, 30000, 65535, 65536, -1] _ hsrc.out (by omega) rfl rfl (by omega) (by omega)).mono ?_
        rintro e w6 ⟨r6, rfl, _, hs6, hg6⟩
        have Ho6 := hid ((hown.out.kept (grown_alloc _ _ none) (by simp)).kept hg6 (by simp; omega))
        have Hb6 := hid hs6.2.1
        clear hs6 hg6 hown hsrc
        go_wp2
        go_ret2
        exact ⟨gl, cl, ys, r6, by first | rfl | (rw [hyn]; rfl) | (rw [hy0]; rfl), App.Ow.mono Ho6.out hw0, hy65, Hb6.out⟩
end Go.Proofs.Ytfmgdhpadamlkaa.LadE
