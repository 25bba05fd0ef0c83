/- The draws of lists of values, and of bytes that tell some. -/
import Derived.Test.YthecfboplfmdmaaDoorDrwV
import Derived.Test.YthecfboplfmdmaaDoorSomD
import Derived.Test.YthecfboplfmdmaaDoorRdL
import Derived.Deep.RegionHeld3
import Derived.Deep.DrawnRows
namespace Go.Proofs.YthecfboplfmdmaaDoor.DrwW
open Go.ChangeShapes Go.WideShapes Go.ChangeAt Go.RowKit Go.Proofs.YthecfboplfmdmaaDoor.Num Go.Proofs.YthecfboplfmdmaaDoor.Sli Go.Proofs.YthecfboplfmdmaaDoor.App Go.Proofs.YthecfboplfmdmaaDoor.Src Go.Proofs.YthecfboplfmdmaaDoor.CrcM Go.Proofs.YthecfboplfmdmaaDoor.ValZ Go.Proofs.YthecfboplfmdmaaDoor.ValM Go.Proofs.YthecfboplfmdmaaDoor.RangeM Go.Proofs.YthecfboplfmdmaaDoor.EncV Go.Proofs.YthecfboplfmdmaaDoor.RdL Go.Proofs.YthecfboplfmdmaaDoor.DrwV Go.Proofs.YthecfboplfmdmaaDoor.SomD
open Go.Proofs.YthecfboplfmdmaaDoor.Byt (OwB infoB)
open Go.Proofs.YthecfboplfmdmaaDoor.IntL (OwI)

theorem allV_snoc {ys : List Int} {r : Int} (h : allV ys) (h1 : -65535 ≤ r) (h2 : r ≤ 65535) : allV (ys ++ [r]) := fun y hy => by
  rcases List.mem_append.1 hy with h3 | h3
  · exact h y h3
  · simp at h3; subst h3; exact ⟨h1, h2⟩
set_option maxHeartbeats 1000000 in
theorem l4List_calls (w0 w : World) (g : Nat) (a : Option Addr) (cap : Nat) (bs : List Int) (at' n : Nat) (h : Src w0 w g a cap bs at') (hat : at' ≤ 1000) (hn : n ≤ 65) :
    Calls Tryd.prog 28 #[.pointer (some ⟨g, 0, none⟩), .int .i64 (n : Int)] w fun e w' => ∃ gl cl ys, e = .returned (.slice (some ⟨gl, 0, none⟩) n cl) ∧ OwI w.heap.size w' (.slice (some ⟨gl, 0, none⟩) n cl) ys ∧ ys.length = n ∧ allV ys ∧ Src w0 w' g a cap bs (at' + 6 * n) ∧ w.grownBy w' (some g) := by
  have hgw := src_lt h
  have hw0 := h.2.1.size
  have H : Hid (Src w0 (w.alloc (.cells #[] 2)) g a cap bs (at' + 6 * 0) ∧ w.grownBy (w.alloc (.cells #[] 2)) (some g)) := ⟨src_alloc h _, grown_alloc w _ _⟩
  clear h
  go_enter Tryd.func28, Tryd.ntmps28
  go_wp2_with fail
  go_loopw [1, 5] (fun nv v wr => ∃ (k gl cl m : Nat) (ys : List Int), nv = .int .i64 (k : Int) ∧ v = .slice (some ⟨gl, 0, none⟩) m cl ∧ k + m = n ∧ Hid (m = ys.length) ∧ Hid (allV ys) ∧ Hid (OwI w.heap.size wr (.slice (some ⟨gl, 0, none⟩) m cl) ys) ∧ Hid (Src w0 wr g a cap bs (at' + 6 * m)) ∧ Hid (w.grownBy wr (some g))) (fun nv _ _ => (intOf nv).toNat)
  case atStart => exact ⟨n, w.heap.size, 0, 0, [], rfl, rfl, rfl, rfl, (fun y hy => by cases hy), ow_new _ _ _ w (Nat.le_refl _), H.out.1, H.out.2⟩
  case round =>
    clear H
    obtain ⟨k, gl, cl, m, ys, rfl, rfl, hkn, hm, hys, hown, hsrc, hgr⟩ := hrel
    by_cases hk : 0 < k
    · obtain ⟨k', rfl⟩ : ∃ k', k = k' + 1 := ⟨k - 1, by omega⟩
      have hkb : (k' : Int) ≤ 65 := by omega
      go_wp2_with fail
      refine (l4Draw_calls w0 _ g a cap bs _ hsrc.out (by omega)).mono ?_
      rintro e w1 ⟨r, rfl, hr1, hr2, hs1, hg1⟩
      have hle := hown.out.block gl rfl
      have Ho := hid (hown.out.kept hg1 (fun j e => by cases e; omega))
      have Hg := hid (grown_thenB hgr.out hg1 (fun j e => Or.inl (by simpa using e.symm)))
      have hw1 : w.heap.size ≤ w1.heap.size := Hg.out.size
      have Hs := hid hs1
      have Hv := hid (allV_snoc hys.out hr1 hr2)
      clear hs1 hg1 hown hsrc hgr hys hr1 hr2
      have Hoa := hid (Ho.out.alloc (.cells #[.int .i64 r] 2))
      go_wp2_with (at_builtin; refine wpList_append_ints _ rfl _ _ rfl w.heap.size _ ys rfl Hoa.out _ [r] rfl (sl_lit _ _ _ _ _ _ rfl rfl) (by simp) ?c1 ?c2 ?_)
      case c1 => have := hm.out; simp only [List.length_singleton]; omega
      case c2 => simp; omega
      intro g2 cap2 n2 w2 hn2 ho2 hg2
      have Hn2 : Hid (n2 = m + 1) := by show _ = _; have := hm.out; first | omega | (simp only [List.length_append, List.length_singleton] at hn2; omega)
      have hn3 := Hn2.out
      subst hn3
      have Ho2 := hid ho2
      have Hs2 : Hid (Src w0 w2 g a cap bs (at' + 6 * (m + 1))) := src_grownB (src_alloc Hs.out _) hg2 (fun j e => by have := Hoa.out.block j e; simp at this; cases e; omega)
      have Hg2 : Hid (w.grownBy w2 (some g)) := grown_thenB (grown_thenB Hg.out (grown_alloc w1 _ none) (fun j e => by cases e)) hg2 (fun j e => Or.inr (Hoa.out.block j e).1)
      have Hm2 : Hid (m + 1 = (ys ++ [r]).length) := by show _ = _; have := hm.out; simp; omega
      clear hn2 ho2 hg2 Hs Hg Ho Hoa
      go_wp2
      go_roundw
      case rel => exact ⟨k', g2, cap2, m + 1, ys ++ [r], by go_num, rfl, by omega, Hm2.out, Hv.out, Ho2.out, Hs2.out, Hg2.out⟩
      case measure => simp [intOf]
    · obtain rfl : k = 0 := by omega
      obtain rfl : m = n := by omega
      go_wp2
      go_ret
      exact ⟨gl, cl, ys, rfl, hown.out, hm.out.symm, hys.out, hsrc.out, hgr.out⟩
set_option maxHeartbeats 2000000 in
theorem drawEncV_calls (a : Option Addr) (cap : Nat) (bs : List Int) (w : World) (hsl : Sl .u8 w (.slice a bs.length cap) bs) (hbd : ∀ x ∈ bs, 0 ≤ x ∧ x ≤ 255) (hlen : bs.length ≤ 1048576) :
    Calls Tryd.prog 7 #[.slice a bs.length cap] w fun e w' => ∃ (g c : Nat) (vs : List Int), e = .returned (.slice (some ⟨g, 0, none⟩) vs.length c) ∧ vs.length ≤ 65 ∧ Sl .i64 w' (.slice (some ⟨g, 0, none⟩) vs.length c) vs ∧ Below w.heap.size w w' := by
  have HS := hid (l1Source_calls a cap bs w w (Below.refl _ _) hsl hbd hlen)
  clear hsl hbd
  go_enter Tryd.func7, Tryd.ntmps7
  go_wp2_with fail
  refine HS.out.mono ?_
  rintro e w1 ⟨g, rfl, hs1, _⟩
  have H1 := hid hs1
  clear hs1 HS
  go_wp2_with fail
  refine (l1Pick_lit w _ g a cap bs _ 8 2 [0, 1, 2, 5, 9, 20, 64, 65] _ H1.out (by omega) rfl rfl (by omega) (by omega)).mono ?_
  rintro e w2 ⟨r, rfl, hr, hs2, _⟩
  obtain ⟨n, hn, hn2⟩ : ∃ n : Nat, r = n ∧ n ≤ 65 := by
    simp only [List.mem_cons, List.not_mem_nil, or_false] at hr
    exact ⟨r.toNat, by omega, by omega⟩
  subst hn
  have H2 := hid hs2
  clear hs2 H1 hr
  go_wp2_with fail
  refine (l4List_calls w _ g a cap bs _ n H2.out (by omega) hn2).mono ?_
  rintro e w3 ⟨gl, cl, ys, rfl, ho3, hyl, _, hs3, _⟩
  have hgl2 := src_lt H2.out
  have hw2 := H2.out.2.1.size
  have Ho3 := hid ho3
  have H3 := hid hs3
  subst hyl
  have hbl := ho3.block gl rfl
  clear ho3 hs3 H2
  by_cases h0 : ys.length = 0
  · have hI : ¬ (0 : Int) < (ys.length : Int) := by omega
    have HL := hid H3.out.2.1
    clear H3 h0
    go_wp2
    go_ret
    exact ⟨gl, cl, ys, rfl, by omega, Ho3.out.sl, HL.out⟩
  · have hI : (0 : Int) < (ys.length : Int) := by omega
    go_wp2_with fail
    refine (l1Chance_calls w _ g a cap bs _ 12 H3.out (by omega) (by omega) (by omega)).mono ?_
    rintro e w4 ⟨c1, rfl, hs4, hg4⟩
    have H4 := hid hs4
    have Ho4 := hid (Ho3.out.kept hg4 (fun j e => by cases e; omega))
    clear hs4 hg4 H3 Ho3
    cases c1
    · have HL := hid H4.out.2.1
      clear H4 h0
      go_wp2
      go_ret
      exact ⟨gl, cl, ys, rfl, by omega, Ho4.out.sl, HL.out⟩
    · go_wp2_with fail
      refine (l1Next_calls w _ g a cap bs _ (ys.length : Int) H4.out (by omega) (by omega) (by omega)).mono ?_
      rintro e w5 ⟨r5, rfl, hr1, hr2, hs5, hg5⟩
      obtain ⟨j, rfl⟩ := Int.eq_ofNat_of_zero_le hr1
      have H5 := hid hs5
      have Ho5 := hid (Ho4.out.kept hg5 (fun j e => by cases e; omega))
      clear hs5 hg5 H4 Ho4
      go_wp2_with fail
      refine (l1Pick_lit w _ g a cap bs _ 2 2 [65536, -65536] _ H5.out (by omega) rfl rfl (by omega) (by omega)).mono ?_
      rintro e w6 ⟨r6, rfl, _, hs6, hg6⟩
      have Ho6 := hid ((Ho5.out.alloc (.cells #[.int .i64 65536, .int .i64 (-65536)] 2)).kept hg6 (fun j e => by cases e; omega))
      obtain ⟨c6, f6⟩ := Ho6.out.cellAt rfl j (by omega)
      have HS6 := hid ((Ho6.out.set rfl j r6).1.sl)
      have HL := hid (hs6.2.1.setCell (p := ⟨gl, j, none⟩) (by show w.heap.size ≤ gl; omega) (.int .i64 r6))
      clear hs6 hg6 H5 Ho5 Ho6
      generalize ys.getD j 0 = y at *
      go_wp2
      go_ret
      exact ⟨gl, cl, ys.set j r6, by rw [List.length_set]; rfl, by rw [List.length_set]; omega, by rw [List.length_set]; exact HS6.out, HL.out⟩
end Go.Proofs.YthecfboplfmdmaaDoor.DrwW
