/- The draws of lists of bounds. Conditions: those of the source. -/
import Derived.Test.YtbakmphopgkpmaaDoorDrwR
import Derived.Test.YtbakmphopgkpmaaDoorDrwB
namespace Go.Proofs.YtbakmphopgkpmaaDoor.DrwS8
open Go.ChangeShapes Go.WideShapes Go.ChangeAt Go.RowKit Go.Proofs.YtbakmphopgkpmaaDoor.Num Go.Proofs.YtbakmphopgkpmaaDoor.Sli Go.Proofs.YtbakmphopgkpmaaDoor.App Go.Proofs.YtbakmphopgkpmaaDoor.Src Go.Proofs.YtbakmphopgkpmaaDoor.DrwP Go.Proofs.YtbakmphopgkpmaaDoor.DrwR Go.Proofs.YtbakmphopgkpmaaDoor.IntL Go.Proofs.YtbakmphopgkpmaaDoor.IntA Go.Proofs.YtbakmphopgkpmaaDoor.HalM
open Go.Proofs.YtbakmphopgkpmaaDoor.Lists (grown_alloc own_new own_snoc list_step src_grown)

/-- A source, and a list that was drawn since w. -/
structure DL (w0 w : World) (g : Nat) (a : Option Addr) (cap : Nat) (bs : List Int) (at' gl cl n : Nat) (ys : List Int) (W : World) : Prop where
  s : Src w0 W g a cap bs at'
  o : OwI w.heap.size W (.slice (some ⟨gl, 0, none⟩) n cl) ys
  n : n = ys.length
  gr : w.grownBy W (some g)
  lt : g < w.heap.size
  le : w0.heap.size ≤ w.heap.size
section
variable {w0 w W W' : World} {g : Nat} {a : Option Addr} {cap : Nat} {bs : List Int} {at' at2 gl cl n : Nat} {ys : List Int}
theorem grown_far {w A B : World} {g gl : Nat} (h : w.grownBy A (some g)) (k : A.grownBy B (some gl)) (hl : w.heap.size ≤ gl) : w.grownBy B (some g) :=
  Lists.grown_then h k (fun j e => by cases e; exact Or.inr hl)
theorem DL.next (h : DL w0 w g a cap bs at' gl cl n ys W) (hs : Src w0 W' g a cap bs at2) (hg : W.grownBy W' (some g)) : DL w0 w g a cap bs at2 gl cl n ys W' := by
  have hb := h.o.block gl rfl
  have hl := h.lt
  exact ⟨hs, Ow.keptNe h.o hg (fun j e => by cases e; simp [Value.ownBlock]; omega), h.n, grown_same h.gr hg, hl, h.le⟩
theorem DL.alloc (h : DL w0 w g a cap bs at' gl cl n ys W) (o : Obj) : DL w0 w g a cap bs at' gl cl n ys (W.alloc o) := ⟨src_alloc h.s o, h.o.alloc o, h.n, grown_same h.gr (grown_alloc _ _ _), h.lt, h.le⟩
theorem DL.set (h : DL w0 w g a cap bs at' gl cl n ys W) (i : Nat) (x : Int) : DL w0 w g a cap bs at' gl cl n (ys.set i x) (W.setCell ⟨gl, i, none⟩ (.int .i64 x)) := by
  have h1 := Ow.set h.o h.n i x
  have hb := h.o.block gl rfl
  have hl := h.lt
  have hle := h.le
  exact ⟨src_grown h.s h1.2 (fun j e => by cases e; exact ⟨by omega, by omega⟩), h1.1, by rw [List.length_set]; exact h.n, grown_far h.gr h1.2 hb.1, hl, hle⟩
end
/-- The bounds that are drawn. -/
def bdL (ys : List Int) : Prop := ∀ y ∈ ys, -1 ≤ y ∧ y ≤ 67108865
theorem bdL_set {ys : List Int} (h : bdL ys) (i : Nat) {x : Int} (hx : -1 ≤ x ∧ x ≤ 67108865) : bdL (ys.set i x) := fun y hy => by
  rcases List.mem_or_eq_of_mem_set hy with h1 | h1
  · exact h y h1
  · rw [h1]; exact hx
set_option maxHeartbeats 2000000 in
theorem l8List_calls (w0 w : World) (g : Nat) (a : Option Addr) (cap : Nat) (bs : List Int) (at' n : Nat) (h : Src w0 w g a cap bs at') (hat : at' ≤ 80000) (hn : n ≤ 20) :
    Calls Tryd.prog 65 #[.pointer (some ⟨g, 0, none⟩), .int .i64 n] w fun e w' => ∃ gl cl ys at2, e = .returned (.slice (some ⟨gl, 0, none⟩) n cl) ∧ bdL ys ∧ at2 ≤ at' + 100 ∧ DL w0 w g a cap bs at2 gl cl n ys w' := by
  obtain ⟨i0, hi, hz0, hz1, hz2⟩ := info_parts Lists.infoI
  have hgw := src_lt h
  have hw0 := h.2.1.size
  have H : Hid (Src w0 (w.alloc (.cells #[] 2)) g a cap bs (at' + 4 * 0) ∧ w.grownBy (w.alloc (.cells #[] 2)) (some g)) := ⟨src_alloc h _, grown_alloc w _ _⟩
  clear h
  go_enter Tryd.func65, Tryd.ntmps65
  go_wp2
  go_loopw [1, 5] (fun nv v wr => ∃ (k gl cl : Nat) (ys : List Int), nv = .int .i64 k ∧ v = .slice (some ⟨gl, 0, none⟩) ys.length cl ∧ Hid (k + ys.length = n) ∧ Hid (bdL ys) ∧ Hid (Lists.Own w.heap.size wr gl cl ys) ∧ Hid (Src w0 wr g a cap bs (at' + 4 * ys.length)) ∧ Hid (w.grownBy wr (some g))) (fun nv _ _ => (intOf nv).toNat)
  case atStart => exact ⟨n, w.heap.size, 0, [], rfl, rfl, by simp [Hid], (fun y hy => by cases hy), own_new w, H.out.1, H.out.2⟩
  case round =>
    obtain ⟨k, gl, cl, ys, rfl, rfl, hkn, hys, hown, hsrc, hgr⟩ := hrel
    clear H
    by_cases hk : 0 < k
    · obtain ⟨k', rfl⟩ : ∃ k', k = k' + 1 := ⟨k - 1, by omega⟩
      have hyl : ys.length ≤ n := by have := hkn.out; omega
      have hkb : k' ≤ 1000 := by have := hkn.out; omega
      go_wp2_with fail
      refine (l8Some_calls w0 _ g a cap bs _ hsrc.out (by omega)).mono ?_
      rintro e w1 ⟨r, rfl, ⟨hr1, hr2⟩, hs1, hg1⟩
      have hle := hown.out.le
      have hown1 : Lists.Own w.heap.size w1 gl cl ys := hown.out.kept hg1 (by simp; omega)
      have hgr1 : w.grownBy w1 (some g) := Lists.grown_then hgr.out hg1 (fun j e => Or.inl (by simpa using e.symm))
      have hw1 : w.heap.size ≤ w1.heap.size := hgr1.size
      have Ho := hid hown1
      have Hs := hid hs1
      have Hg := hid hgr1
      clear hs1 hg1 hown1 hgr1 hown hsrc hgr
      go_wp2_with (at_builtin; refine wpList_append_lies _ rfl _ _ 30 rfl w.heap.size 2 i0 (.int .i64 0) 1 8 Tryd.underlying30 hi hz0 hz1 hz2 rfl (by decide) _ ys.length _ rfl (World.ownsRow.alloc Ho.out _) ⟨w1.heap.size, 0, none⟩ 1 1 [.int .i64 r] rfl rfl ?c1 ?c2 (by decide) ?c3 ?c4 ?c5 (w1.heap.size + 1) ?c6 ?_)
      case c1 =>
        intro j u hj
        match j, hj with
        | 0, hj => simp at hj; subst hj; simp [Addr.add]
      case c2 => intro u hu; simp at hu; subst hu; rfl
      case c3 => unfold maxLen; omega
      case c4 => omega
      case c5 => simp; omega
      case c6 => simp
      intro g2 cap2 w2 hown2 hgrow2 hat2 hlt2
      have hst := list_step Hs.out Hg.out hgw hw0 Ho.out hgrow2
      have Ho2 := hid (own_snoc hown2)
      have Hst := hid hst
      clear hst hown2 hgrow2 hat2 hlt2
      go_wp2
      go_roundw
      case rel => exact ⟨k', g2, cap2, ys ++ [r], by go_num, by simp, by have := hkn.out; unfold Hid; simp; omega, fun y hy => by rcases List.mem_append.1 hy with h1 | h1; exact hys.out y h1; simp at h1; omega, Ho2.out, by rw [List.length_append]; exact Hst.out.1, Hst.out.2⟩
      case measure => simp [intOf]
    · have hk0 : k = 0 := by omega
      subst hk0
      have hyn : ys.length = n := by have := hkn.out; omega
      have HD : Hid (DL w0 w g a cap bs (at' + 4 * ys.length) gl cl ys.length ys wr) := ⟨hsrc.out, hown.out, rfl, hgr.out, hgw, hw0⟩
      rw [hyn] at HD ⊢
      clear hsrc hown hgr hkn
      by_cases hpos : 0 < n
      · go_wp2_with fail
        refine (l1Chance_calls w0 _ g a cap bs _ _ HD.out.s (by omega) (by omega) (by omega)).mono ?_
        rintro e w5 ⟨c, rfl, hs5, hg5⟩
        have HD5 := hid (HD.out.next hs5 hg5)
        clear hs5 hg5 HD
        cases c
        · go_wp2
          go_ret
          exact ⟨gl, cl, ys, _, rfl, hys.out, by omega, HD5.out⟩
        · go_wp2_with fail
          refine (l1Pick_lit w0 _ g a cap bs _ 3 2 [-1, 67108864, 67108865] _ HD5.out.s (by omega) rfl rfl (by omega) (by omega)).mono ?_
          rintro e w7 ⟨x, rfl, hx, hs7, hg7⟩
          have hd7 := (HD5.out.alloc (.cells #[.int .i64 (-1), .int .i64 67108864, .int .i64 67108865] 2)).next hs7 hg7
          have hcf := App.Ow.cellAt hd7.o hd7.n 0 (by rw [hyn]; omega)
          obtain ⟨c0, f0⟩ := hcf
          have HD8 := hid (hd7.set 0 x)
          have HB8 : Hid (bdL (ys.set 0 x)) := bdL_set hys.out 0 (by simp at hx; omega)
          clear hs7 hg7 HD5 hd7 hx
          generalize ys.getD 0 0 = y at *
          go_wp2
          go_ret
          exact ⟨gl, cl, _, _, rfl, HB8.out, by omega, HD8.out⟩
      · obtain rfl : n = 0 := by omega
        go_wp2
        go_ret
        exact ⟨gl, cl, ys, _, rfl, hys.out, by omega, HD.out⟩
theorem drawGatherBounds_calls (a : Option Addr) (cap : Nat) (bs : List Int) (w : World) (hsl : Sl .u8 w (.slice a bs.length cap) bs) (hbd : ∀ x ∈ bs, 0 ≤ x ∧ x ≤ 255) (hlen : bs.length ≤ 1048576) :
    Calls Tryd.prog 21 #[.slice a bs.length cap] w fun e w' => ∃ gl cl n ys, e = .returned (.slice (some ⟨gl, 0, none⟩) n cl) ∧ OwI w.heap.size w' (.slice (some ⟨gl, 0, none⟩) n cl) ys ∧ n = ys.length ∧ n ≤ 16 ∧ bdL ys ∧ Below w.heap.size w w' := by
  have H := hid (l1Source_calls a cap bs w w (Below.refl _ _) hsl hbd hlen)
  clear hsl hbd
  go_enter Tryd.func21, Tryd.ntmps21
  go_wp2_with fail
  refine H.out.mono ?_
  rintro e w1 ⟨g, rfl, hs1, _⟩
  have Hs1 := hid hs1
  clear hs1 H
  go_wp2_with fail
  refine (l1Pick_lit w _ g a cap bs _ 8 2 [4, 8, 16, 4, 8, 16, 2, 0] _ Hs1.out (by omega) rfl rfl (by omega) (by omega)).mono ?_
  rintro e w2 ⟨r, rfl, hr, hs2, _⟩
  have hr0 : 0 ≤ r ∧ r ≤ 16 := by simp at hr; omega
  obtain ⟨n, rfl⟩ := Int.eq_ofNat_of_zero_le hr0.1
  have hn16 : n ≤ 16 := by omega
  have Hs2 := hid hs2
  clear hs2 hr Hs1
  go_wp2_with fail
  refine (l8List_calls w _ g a cap bs _ n Hs2.out (by omega) (by omega)).mono ?_
  rintro e w3 ⟨gl, cl, ys, at2, rfl, hy, _, hd⟩
  have HO := hid (App.Ow.mono hd.o hd.le)
  have HB := hid hd.s.2.1
  have HY := hid hy
  have HN := hid hd.n
  clear hd hy Hs2
  go_wp2
  go_ret
  exact ⟨gl, cl, n, ys, rfl, HO.out, HN.out, hn16, HY.out, HB.out⟩
end Go.Proofs.YtbakmphopgkpmaaDoor.DrwS8
