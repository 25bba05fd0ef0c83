/- Lists that are drawn: each is new memory of the call's own, and holds numbers within its bounds. Conditions: a right source, not too many numbers. -/
import Derived.Test.YtodfkicmmcfkaaaSrc
import Derived.Deep.AppendLies
namespace Go.Proofs.Ytodfkicmmcfkaaa.Lists
open Go.ChangeShapes Go.WideShapes Go.ChangeAt Go.RowKit Go.Proofs.Ytodfkicmmcfkaaa.Num Go.Proofs.Ytodfkicmmcfkaaa.Sli Go.Proofs.Ytodfkicmmcfkaaa.Src

theorem infoI : (Try.prog.info? 2).map (fun i => (i.zero, i.size, i.bytes)) = some (some (.int .i64 0), 1, 8) := by kernel_rfl

/-- The slice at the head of block g is the call's own, from block base on, and holds ys. -/
def Own (base : Nat) (w : World) (g cap : Nat) (ys : List Int) : Prop :=
  w.ownsRow base 2 1 (.slice (some ⟨g, 0, none⟩) ys.length cap) ys.length (ys.map (Value.int .i64))

theorem Own.le {base : Nat} {w : World} {g cap : Nat} {ys : List Int} (h : Own base w g cap ys) : base ≤ g ∧ g < w.heap.size := by
  rcases h.2 with ⟨hv, _⟩ | ⟨g', cap', cur, hv, hg, hh, _⟩
  · cases hv
  · simp at hv
    obtain ⟨rfl, _⟩ := hv
    refine ⟨hg, ?_⟩
    rcases Nat.lt_or_ge g w.heap.size with hl | hl
    · exact hl
    · rw [show w.heap[g]? = none by simp; omega] at hh; cases hh
theorem Own.kept {base : Nat} {w w' : World} {g cap : Nat} {ys : List Int} {row : Option Nat} (h : Own base w g cap ys) (hg : w.grownBy w' row) (hr : row ≠ some g) : Own base w' g cap ys := by
  have h' : w.ownsRow base 2 1 (.slice (some ⟨g, 0, none⟩) ys.length cap) ys.length (ys.map (Value.int .i64)) := h
  exact h'.kept hg (Or.inr (by show some g ≠ row; exact fun e => hr e.symm))
theorem Own.sl {base : Nat} {w : World} {g cap : Nat} {ys : List Int} (h : Own base w g cap ys) : Sl .i64 w (.slice (some ⟨g, 0, none⟩) ys.length cap) ys := (sl_of_own h).1

theorem grown_refl (w : World) (r : Option Nat) : w.grownBy w r := ⟨rfl, rfl, rfl, Nat.le_refl _, fun _ _ _ => rfl⟩
theorem grown_then {w a b : World} {g : Nat} {row : Option Nat} (h : w.grownBy a (some g)) (k : a.grownBy b row) (hr : ∀ j, row = some j → j = g ∨ w.heap.size ≤ j) : w.grownBy b (some g) :=
  ⟨k.os.trans h.os, k.tape.trans h.tape, k.output.trans h.output, Nat.le_trans h.size k.size, fun j hj hne => by
    rw [k.block j (Nat.lt_of_lt_of_le hj h.size) (fun e => by rcases hr j e.symm with h1 | h1; exact hne (by rw [h1]); omega)]
    exact h.block j hj hne⟩
theorem grown_alloc (w : World) (o : Obj) (r : Option Nat) : w.grownBy (w.alloc o) r := ⟨rfl, rfl, rfl, by simp, fun k hk _ => Below.heap_alloc w o k hk⟩
theorem src_grown {w0 w w' : World} {g : Nat} {a : Option Addr} {cap : Nat} {bs : List Int} {at' : Nat} {row : Option Nat} (h : Src w0 w g a cap bs at') (k : w.grownBy w' row) (hr : ∀ j, row = some j → j ≠ g ∧ w0.heap.size ≤ j) : Src w0 w' g a cap bs at' := by
  have hlt := src_lt h
  obtain ⟨h1, h2, h3, h4, h5, h6⟩ := h
  refine ⟨h1, h2.grown k h2.size (fun j e => (hr j e).2), h3, h4, h5, ?_⟩
  rw [k.block g hlt (fun e => (hr g e.symm).1 rfl)]
  exact h6

theorem own_new (w : World) : Own w.heap.size (w.alloc (.cells #[] 2)) w.heap.size 0 [] :=
  ⟨rfl, Or.inr ⟨w.heap.size, 0, #[], rfl, Nat.le_refl _, heap_alloc_new w _, Nat.le_refl _, by unfold maxLen; omega, rfl, rfl⟩⟩
theorem own_snoc {base : Nat} {w : World} {g cap : Nat} {ys : List Int} {r : Int} (h : w.ownsRow base 2 1 (.slice (some ⟨g, 0, none⟩) (ys.length + 1) cap) (ys.length + 1) (ys.map (Value.int .i64) ++ [.int .i64 r])) : Own base w g cap (ys ++ [r]) := by
  unfold Own
  rw [List.length_append, List.map_append]
  exact h
/-- What one round of a drawn list does, behind its append. -/
theorem list_step {w0 w w1 w2 : World} {g gl cl : Nat} {a : Option Addr} {cap : Nat} {bs : List Int} {at2 : Nat} {ys : List Int} {o : Obj}
    (hs : Src w0 w1 g a cap bs at2) (hg : w.grownBy w1 (some g)) (hgw : g < w.heap.size) (hw0 : w0.heap.size ≤ w.heap.size) (hown : Own w.heap.size w1 gl cl ys)
    (hgrow : (w1.alloc o).grownBy w2 (some gl)) :
    Src w0 w2 g a cap bs at2 ∧ w.grownBy w2 (some g) := by
  have hl := hown.le
  refine ⟨src_grown (src_alloc hs o) hgrow (fun j e => ?_), grown_then (grown_then hg (grown_alloc w1 o none) (fun j e => by cases e)) hgrow (fun j e => ?_)⟩
  · cases e; exact ⟨by omega, by omega⟩
  · cases e; exact Or.inr hl.1

set_option maxHeartbeats 1000000 in
theorem l1DrawList_calls (w0 w : World) (g : Nat) (a : Option Addr) (cap : Nat) (bs : List Int) (at' n : Nat) (most : Int) (h : Src w0 w g a cap bs at') (hat : at' + n ≤ 100000) (hn : n ≤ 1000) (hm0 : 0 ≤ most) (hm1 : most ≤ 1000000000) :
    Calls Try.prog 55 #[.pointer (some ⟨g, 0, none⟩), .int .i64 n, .int .i64 most] w fun e w' => ∃ gl cl ys, e = .returned (.slice (some ⟨gl, 0, none⟩) ys.length cl) ∧ Own w.heap.size w' gl cl ys ∧ ys.length = n ∧ (∀ y ∈ ys, -most ≤ y ∧ y ≤ most) ∧ Src w0 w' g a cap bs (at' + n) ∧ w.grownBy w' (some g) := by
  obtain ⟨i0, hi, hz0, hz1, hz2⟩ := info_parts infoI
  have hgw := src_lt h
  have hw0 := h.2.1.size
  have H : Hid (Src w0 (w.alloc (.cells #[] 2)) g a cap bs (at' + 0) ∧ w.grownBy (w.alloc (.cells #[] 2)) (some g)) := ⟨src_alloc h _, grown_alloc w _ _⟩
  clear h
  go_enter Try.func55, Try.ntmps55
  go_wp2
  go_loopw [1, 7] (fun nv v wr => ∃ (k gl cl : Nat) (ys : List Int), nv = .int .i64 k ∧ v = .slice (some ⟨gl, 0, none⟩) ys.length cl ∧ Hid (k + ys.length = n) ∧ Hid (∀ y ∈ ys, -most ≤ y ∧ y ≤ most) ∧ Hid (Own w.heap.size wr gl cl ys) ∧ Hid (Src w0 wr g a cap bs (at' + ys.length)) ∧ Hid (w.grownBy wr (some g))) (fun nv _ _ => (intOf nv).toNat)
  case atStart => exact ⟨n, w.heap.size, 0, [], rfl, rfl, by simp [Hid], (fun y hy => by cases hy), own_new w, H.out.1, H.out.2⟩
  case round =>
    obtain ⟨k, gl, cl, ys, rfl, rfl, hkn, hys, hown, hsrc, hgr⟩ := hrel
    clear H
    by_cases hk : 0 < k
    · obtain ⟨k', rfl⟩ : ∃ k', k = k' + 1 := ⟨k - 1, by omega⟩
      have hyl : ys.length ≤ n := by have := hkn.out; omega
      have hkb : k' ≤ 1000 := by have := hkn.out; omega
      go_wp2_with fail
      refine (l1Signed_calls w0 _ g a cap bs _ most hsrc.out (by omega) hm0 hm1).mono ?_
      rintro e w1 ⟨r, rfl, hr1, hr2, hs1, hg1⟩
      have hle := hown.out.le
      have hown1 : Own w.heap.size w1 gl cl ys := hown.out.kept hg1 (by simp; omega)
      have hgr1 : w.grownBy w1 (some g) := grown_then hgr.out hg1 (fun j e => Or.inl (by simpa using e.symm))
      have hw1 : w.heap.size ≤ w1.heap.size := hgr1.size
      have Ho := hid hown1
      have Hs := hid hs1
      have Hg := hid hgr1
      clear hs1 hg1 hown1 hgr1 hown hsrc hgr
      go_wp2_with (at_builtin; refine wpList_append_lies _ rfl _ _ 24 rfl w.heap.size 2 i0 (.int .i64 0) 1 8 Try.underlying24 hi hz0 hz1 hz2 rfl (by decide) _ ys.length _ rfl (World.ownsRow.alloc Ho.out _) ⟨w1.heap.size, 0, none⟩ 1 1 [.int .i64 r] rfl rfl ?c1 ?c2 (by decide) ?c3 ?c4 ?c5 (w1.heap.size + 1) ?c6 ?_)
      case c1 =>
        intro j u hj
        match j, hj with
        | 0, hj => simp at hj; subst hj; simp [Addr.add]
      case c2 => intro u hu; simp at hu; subst hu; rfl
      case c3 => unfold maxLen; omega
      case c4 => omega
      case c5 => simp; omega
      case c6 => simp
      intro g2 cap2 w2 hown2 hgrow2 hat2 hlt2
      have hst := list_step Hs.out Hg.out hgw hw0 Ho.out hgrow2
      have Ho2 := hid (own_snoc hown2)
      have Hst := hid hst
      clear hst hown2 hgrow2 hat2 hlt2
      go_wp2
      go_roundw
      case rel => exact ⟨k', g2, cap2, ys ++ [r], by go_num, by simp, by have := hkn.out; unfold Hid; simp; omega, fun y hy => by rcases List.mem_append.1 hy with h1 | h1; exact hys.out y h1; simp at h1; omega, Ho2.out, by rw [List.length_append]; exact Hst.out.1, Hst.out.2⟩
      case measure => simp [intOf]
    · have hk0 : k = 0 := by omega
      subst hk0
      go_wp2
      go_ret
      exact ⟨gl, cl, ys, rfl, hown.out, by have := hkn.out; omega, hys.out, by have h1 := hsrc.out; rw [show ys.length = n by have := hkn.out; omega] at h1; exact h1, hgr.out⟩
end Go.Proofs.Ytodfkicmmcfkaaa.Lists
