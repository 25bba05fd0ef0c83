/- A list of bytes that is drawn. -/
import Derived.Test.YthecfboplfmdmaaDoorByt
import Derived.Test.YthecfboplfmdmaaDoorCrcM
import Derived.Test.YthecfboplfmdmaaDoorSrc
namespace Go.Proofs.YthecfboplfmdmaaDoor.SomD
open Go.ChangeShapes Go.WideShapes Go.ChangeAt Go.RowKit Go.Proofs.YthecfboplfmdmaaDoor.Num Go.Proofs.YthecfboplfmdmaaDoor.Sli Go.Proofs.YthecfboplfmdmaaDoor.App Go.Proofs.YthecfboplfmdmaaDoor.Byt Go.Proofs.YthecfboplfmdmaaDoor.CrcM Go.Proofs.YthecfboplfmdmaaDoor.Src

theorem grown_thenB {w a b : World} {g : Nat} {row : Option Nat} (h : w.grownBy a (some g)) (k : a.grownBy b row) (hr : ∀ j, row = some j → j = g ∨ w.heap.size ≤ j) : w.grownBy b (some g) :=
  ⟨k.os.trans h.os, k.tape.trans h.tape, k.output.trans h.output, Nat.le_trans h.size k.size, fun j hj hne => by
    rw [k.block j (Nat.lt_of_lt_of_le hj h.size) (fun e => by rcases hr j e.symm with h1 | h1; exact hne (by rw [h1]); omega)]
    exact h.block j hj hne⟩
theorem grown_allocB (w : World) (o : Obj) (r : Option Nat) : w.grownBy (w.alloc o) r := ⟨rfl, rfl, rfl, by simp, fun k hk _ => Below.heap_alloc w o k hk⟩
theorem src_grownB {w0 w w' : World} {g : Nat} {a : Option Addr} {cap : Nat} {bs : List Int} {at' : Nat} {row : Option Nat} (h : Src w0 w g a cap bs at') (k : w.grownBy w' row) (hr : ∀ j, row = some j → j ≠ g ∧ w0.heap.size ≤ j) : Src w0 w' g a cap bs at' := by
  have hlt := src_lt h
  obtain ⟨h1, h2, h3, h4, h5, h6⟩ := h
  refine ⟨h1, h2.grown k h2.size (fun j e => (hr j e).2), h3, h4, h5, ?_⟩
  rw [k.block g hlt (fun e => (hr g e.symm).1 rfl)]
  exact h6
theorem bytesL_snoc {ys : List Int} {r : Int} (h : BytesL ys) (h1 : 0 ≤ r) (h2 : r < 256) : BytesL (ys ++ [r]) := fun y hy => by
  rcases List.mem_append.1 hy with h3 | h3
  · exact h y h3
  · simp at h3; omega

set_option maxHeartbeats 1000000 in
theorem l1Some_calls (w0 w : World) (g : Nat) (a : Option Addr) (cap : Nat) (bs : List Int) (at' n : Nat) (h : Src w0 w g a cap bs at') (hat : at' + n ≤ 100000) (hn : n ≤ 1000) :
    Calls Tryd.prog 35 #[.pointer (some ⟨g, 0, none⟩), .int .i64 n] w fun e w' => ∃ gl cl ys, e = .returned (.slice (some ⟨gl, 0, none⟩) n cl) ∧ OwB w.heap.size w' (.slice (some ⟨gl, 0, none⟩) n cl) ys ∧ ys.length = n ∧ BytesL ys ∧ Src w0 w' g a cap bs (at' + n) ∧ w.grownBy w' (some g) := by
  obtain ⟨i0, hi, hz0, hz1, hz2⟩ := info_parts infoB
  have hgw := src_lt h
  have hw0 := h.2.1.size
  have H : Hid (Src w0 (w.alloc (.cells #[] 5)) g a cap bs (at' + 0) ∧ w.grownBy (w.alloc (.cells #[] 5)) (some g)) := ⟨src_alloc h _, grown_allocB w _ _⟩
  clear h
  go_enter Tryd.func35, Tryd.ntmps35
  go_wp2
  go_loopw [1, 5] (fun nv v wr => ∃ (k gl cl : Nat) (ys : List Int), nv = .int .i64 k ∧ v = .slice (some ⟨gl, 0, none⟩) ys.length cl ∧ Hid (k + ys.length = n) ∧ Hid (BytesL ys) ∧ Hid (OwB w.heap.size wr (.slice (some ⟨gl, 0, none⟩) ys.length cl) ys) ∧ Hid (Src w0 wr g a cap bs (at' + ys.length)) ∧ Hid (w.grownBy wr (some g))) (fun nv _ _ => (intOf nv).toNat)
  case atStart => exact ⟨n, w.heap.size, 0, [], rfl, rfl, by simp [Hid], (fun y hy => by cases hy), ow_new _ _ _ w (Nat.le_refl _), H.out.1, H.out.2⟩
  case round =>
    obtain ⟨k, gl, cl, ys, rfl, rfl, hkn, hys, hown, hsrc, hgr⟩ := hrel
    clear H
    by_cases hk : 0 < k
    · obtain ⟨k', rfl⟩ : ∃ k', k = k' + 1 := ⟨k - 1, by omega⟩
      have hyl : ys.length ≤ n := by have := hkn.out; omega
      have hkb : k' ≤ 1000 := by have := hkn.out; omega
      go_wp2_with fail
      refine (l1Next_calls w0 _ g a cap bs _ 256 hsrc.out (by omega) (by omega) (by omega)).mono ?_
      rintro e w1 ⟨r, rfl, hr1, hr2, hs1, hg1⟩
      have hle := hown.out.block gl rfl
      have hown1 : OwB w.heap.size w1 (.slice (some ⟨gl, 0, none⟩) ys.length cl) ys := hown.out.kept hg1 (fun j e => by cases e; omega)
      have hgr1 : w.grownBy w1 (some g) := grown_thenB hgr.out hg1 (fun j e => Or.inl (by simpa using e.symm))
      have hw1 : w.heap.size ≤ w1.heap.size := hgr1.size
      have hrm : r % 256 = r := by omega
      have Ho := hid hown1
      have Hs := hid hs1
      have Hg := hid hgr1
      clear hs1 hg1 hown1 hgr1 hown hsrc hgr
      go_wp2_with (at_builtin; refine wpList_append_sl _ rfl _ _ 22 rfl w.heap.size 5 i0 .u8 0 1 Tryd.underlying22 hi hz0 hz1 hz2 (by decide) gl ys.length cl ys rfl rfl (Ho.out.alloc _) _ [r] rfl (sl_lit _ _ _ _ _ _ rfl rfl) ?c1 ?c2 ?_)
      case c1 => simp; omega
      case c2 => simp; omega
      intro g2 cap2 w2 hown2 hgrow2 hlt2
      have hst : Src w0 w2 g a cap bs (at' + ys.length + 1) ∧ w.grownBy w2 (some g) := by
        have hl := Ho.out.block gl rfl
        refine ⟨src_grownB (src_alloc Hs.out _) hgrow2 (fun j e => ?_), grown_thenB (grown_thenB Hg.out (grown_allocB w1 _ none) (fun j e => by cases e)) hgrow2 (fun j e => ?_)⟩
        · cases e; exact ⟨by omega, by omega⟩
        · cases e; exact Or.inr hl.1
      have Ho2 : Hid (OwB w.heap.size w2 (.slice (some ⟨g2, 0, none⟩) (ys ++ [r]).length cap2) (ys ++ [r])) := by rw [List.length_append]; exact hown2
      have Hst := hid hst
      clear hst hown2 hgrow2 hlt2
      go_wp2
      go_roundw
      case rel => exact ⟨k', g2, cap2, ys ++ [r], by go_num, by simp, by have := hkn.out; unfold Hid; simp; omega, bytesL_snoc hys.out hr1 hr2, Ho2.out, by rw [List.length_append]; exact Hst.out.1, Hst.out.2⟩
      case measure => simp [intOf]
    · have hk0 : k = 0 := by omega
      subst hk0
      have hyn : ys.length = n := by have := hkn.out; omega
      subst hyn
      go_wp2
      go_ret
      exact ⟨gl, cl, ys, rfl, hown.out, rfl, hys.out, hsrc.out, hgr.out⟩
end Go.Proofs.YthecfboplfmdmaaDoor.SomD
