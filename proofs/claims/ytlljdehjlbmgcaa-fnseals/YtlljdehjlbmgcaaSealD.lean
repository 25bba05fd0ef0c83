/- What FnSeals draws: lists of bytes, each in new memory. Conditions: a right source, not too many numbers. -/
import Derived.Test.YtlljdehjlbmgcaaSrc
import Derived.Test.YtlljdehjlbmgcaaSeal
import Derived.Deep.RegionHeld3
import Derived.Deep.DrawnRows
namespace Go.Proofs.Ytlljdehjlbmgcaa.SealD
open Go.ChangeShapes Go.WideShapes Go.ChangeAt Go.RowKit Go.Proofs.Ytlljdehjlbmgcaa.Num Go.Proofs.Ytlljdehjlbmgcaa.Sli Go.Proofs.Ytlljdehjlbmgcaa.App Go.Proofs.Ytlljdehjlbmgcaa.Byt Go.Proofs.Ytlljdehjlbmgcaa.Src Go.Proofs.Ytlljdehjlbmgcaa.CrcM Go.Proofs.Ytlljdehjlbmgcaa.Crc Go.Proofs.Ytlljdehjlbmgcaa.Seal

theorem grown_thenB {w a b : World} {g : Nat} {row : Option Nat} (h : w.grownBy a (some g)) (k : a.grownBy b row) (hr : ∀ j, row = some j → j = g ∨ w.heap.size ≤ j) : w.grownBy b (some g) :=
  ⟨k.os.trans h.os, k.tape.trans h.tape, k.output.trans h.output, Nat.le_trans h.size k.size, fun j hj hne => by
    rw [k.block j (Nat.lt_of_lt_of_le hj h.size) (fun e => by rcases hr j e.symm with h1 | h1; exact hne (by rw [h1]); omega)]
    exact h.block j hj hne⟩
theorem grown_allocB (w : World) (o : Obj) (r : Option Nat) : w.grownBy (w.alloc o) r := ⟨rfl, rfl, rfl, by simp, fun k hk _ => Below.heap_alloc w o k hk⟩
theorem src_grownB {w0 w w' : World} {g : Nat} {a : Option Addr} {cap : Nat} {bs : List Int} {at' : Nat} {row : Option Nat} (h : Src w0 w g a cap bs at') (k : w.grownBy w' row) (hr : ∀ j, row = some j → j ≠ g ∧ w0.heap.size ≤ j) : Src w0 w' g a cap bs at' := by
  have hlt := src_lt h
  obtain ⟨h1, h2, h3, h4, h5, h6⟩ := h
  refine ⟨h1, h2.grown k h2.size (fun j e => (hr j e).2), h3, h4, h5, ?_⟩
  rw [k.block g hlt (fun e => (hr g e.symm).1 rfl)]
  exact h6
theorem bytesL_snoc {ys : List Int} {r : Int} (h : BytesL ys) (h1 : 0 ≤ r) (h2 : r < 256) : BytesL (ys ++ [r]) := fun y hy => by
  rcases List.mem_append.1 hy with h3 | h3
  · exact h y h3
  · simp at h3; omega

set_option maxHeartbeats 1000000 in
theorem l1Some_calls (w0 w : World) (g : Nat) (a : Option Addr) (cap : Nat) (bs : List Int) (at' n : Nat) (h : Src w0 w g a cap bs at') (hat : at' + n ≤ 100000) (hn : n ≤ 1000) :
    Calls Try.prog 25 #[.pointer (some ⟨g, 0, none⟩), .int .i64 n] w fun e w' => ∃ gl cl ys, e = .returned (.slice (some ⟨gl, 0, none⟩) n cl) ∧ OwB w.heap.size w' (.slice (some ⟨gl, 0, none⟩) n cl) ys ∧ ys.length = n ∧ BytesL ys ∧ Src w0 w' g a cap bs (at' + n) ∧ w.grownBy w' (some g) := by
  obtain ⟨i0, hi, hz0, hz1, hz2⟩ := info_parts infoB
  have hgw := src_lt h
  have hw0 := h.2.1.size
  have H : Hid (Src w0 (w.alloc (.cells #[] 5)) g a cap bs (at' + 0) ∧ w.grownBy (w.alloc (.cells #[] 5)) (some g)) := ⟨src_alloc h _, grown_allocB w _ _⟩
  clear h
  go_enter Try.func25, Try.ntmps25
  go_wp2
  go_loopw [1, 5] (fun nv v wr => ∃ (k gl cl : Nat) (ys : List Int), nv = .int .i64 k ∧ v = .slice (some ⟨gl, 0, none⟩) ys.length cl ∧ Hid (k + ys.length = n) ∧ Hid (BytesL ys) ∧ Hid (OwB w.heap.size wr (.slice (some ⟨gl, 0, none⟩) ys.length cl) ys) ∧ Hid (Src w0 wr g a cap bs (at' + ys.length)) ∧ Hid (w.grownBy wr (some g))) (fun nv _ _ => (intOf nv).toNat)
  case atStart => exact ⟨n, w.heap.size, 0, [], rfl, rfl, by simp [Hid], (fun y hy => by cases hy), ow_new _ _ _ w (Nat.le_refl _), H.out.1, H.out.2⟩
  case round =>
    obtain ⟨k, gl, cl, ys, rfl, rfl, hkn, hys, hown, hsrc, hgr⟩ := hrel
    clear H
    by_cases hk : 0 < k
    · obtain ⟨k', rfl⟩ : ∃ k', k = k' + 1 := ⟨k - 1, by omega⟩
      have hyl : ys.length ≤ n := by have := hkn.out; omega
      have hkb : k' ≤ 1000 := by have := hkn.out; omega
      go_wp2_with fail
      refine (l1Next_calls w0 _ g a cap bs _ 256 hsrc.out (by omega) (by omega) (by omega)).mono ?_
      rintro e w1 ⟨r, rfl, hr1, hr2, hs1, hg1⟩
      have hle := hown.out.block gl rfl
      have hown1 : OwB w.heap.size w1 (.slice (some ⟨gl, 0, none⟩) ys.length cl) ys := hown.out.kept hg1 (fun j e => by cases e; omega)
      have hgr1 : w.grownBy w1 (some g) := grown_thenB hgr.out hg1 (fun j e => Or.inl (by simpa using e.symm))
      have hw1 : w.heap.size ≤ w1.heap.size := hgr1.size
      have hrm : r % 256 = r := by omega
      have Ho := hid hown1
      have Hs := hid hs1
      have Hg := hid hgr1
      clear hs1 hg1 hown1 hgr1 hown hsrc hgr
      go_wp2_with (at_builtin; refine wpList_append_sl _ rfl _ _ 22 rfl w.heap.size 5 i0 .u8 0 1 Try.underlying22 hi hz0 hz1 hz2 (by decide) gl ys.length cl ys rfl rfl (Ho.out.alloc _) _ [r] rfl (sl_lit _ _ _ _ _ _ rfl rfl) ?c1 ?c2 ?_)
      case c1 => simp; omega
      case c2 => simp; omega
      intro g2 cap2 w2 hown2 hgrow2 hlt2
      have hst : Src w0 w2 g a cap bs (at' + ys.length + 1) ∧ w.grownBy w2 (some g) := by
        have hl := Ho.out.block gl rfl
        refine ⟨src_grownB (src_alloc Hs.out _) hgrow2 (fun j e => ?_), grown_thenB (grown_thenB Hg.out (grown_allocB w1 _ none) (fun j e => by cases e)) hgrow2 (fun j e => ?_)⟩
        · cases e; exact ⟨by omega, by omega⟩
        · cases e; exact Or.inr hl.1
      have Ho2 : Hid (OwB w.heap.size w2 (.slice (some ⟨g2, 0, none⟩) (ys ++ [r]).length cap2) (ys ++ [r])) := by rw [List.length_append]; exact hown2
      have Hst := hid hst
      clear hst hown2 hgrow2 hlt2
      go_wp2
      go_roundw
      case rel => exact ⟨k', g2, cap2, ys ++ [r], by go_num, by simp, by have := hkn.out; unfold Hid; simp; omega, bytesL_snoc hys.out hr1 hr2, Ho2.out, by rw [List.length_append]; exact Hst.out.1, Hst.out.2⟩
      case measure => simp [intOf]
    · have hk0 : k = 0 := by omega
      subst hk0
      have hyn : ys.length = n := by have := hkn.out; omega
      subst hyn
      go_wp2
      go_ret
      exact ⟨gl, cl, ys, rfl, hown.out, rfl, hys.out, hsrc.out, hgr.out⟩

theorem drawSeal_calls (a : Option Addr) (cap : Nat) (bs : List Int) (w : World) (hsl : Sl .u8 w (.slice a bs.length cap) bs) (hbd : ∀ x ∈ bs, 0 ≤ x ∧ x ≤ 255) (hlen : bs.length ≤ 1048576) :
    Calls Try.prog 8 #[.slice a bs.length cap] w fun e w' => ∃ gl cl n ys, e = .returned (.slice (some ⟨gl, 0, none⟩) n cl) ∧ OwB w.heap.size w' (.slice (some ⟨gl, 0, none⟩) n cl) ys ∧ ys.length = n ∧ n ≤ 159 ∧ BytesL ys ∧ Below w.heap.size w w' := by
  have HS := hid hsl
  have HB := hid hbd
  clear hsl hbd
  go_enter Try.func8, Try.ntmps8
  go_wp2_with fail
  refine (l1Source_calls a cap bs w w (Below.refl _ _) HS.out HB.out hlen).mono ?_
  rintro e w1 ⟨g, rfl, hs1, hg1⟩
  have hs1' := hid hs1
  have hw1 := hg1.size
  have hgl := src_lt hs1
  have Hg1 := hid hg1
  clear hs1 hg1
  go_wp2_with fail
  refine (l1Pick_lit w _ g a cap bs _ 7 2 [0, 1, 2, 9, 20, 158, 159] _ hs1'.out (by omega) rfl rfl (by omega) (by omega)).mono ?_
  rintro e w2 ⟨r, rfl, hr, hs2, hg2⟩
  obtain ⟨n, hn, hn2⟩ : ∃ n : Nat, r = n ∧ n ≤ 159 := by
    simp only [List.mem_cons, List.not_mem_nil, or_false] at hr
    exact ⟨r.toNat, by omega, by omega⟩
  subst hn
  have hw2 := hg2.size
  simp at hw2
  have Hs2 := hid hs2
  clear hr hs2 hg2
  go_wp2_with fail
  refine (l1Some_calls w _ g a cap bs _ n Hs2.out (by omega) (by omega)).mono ?_
  rintro e w3 ⟨gl, cl, ys, rfl, ho, hyl, hyb, hs3, hg3⟩
  have Ho := hid (ho.mono (base' := w.heap.size) (by omega))
  have Hb := hid hs3.2.1
  clear ho hs3 hg3
  go_wp2
  go_ret
  exact ⟨gl, cl, n, ys, rfl, Ho.out, hyl, hn2, hyb, Hb.out⟩
theorem src_later {w0 w w' : World} {g : Nat} {a : Option Addr} {cap : Nat} {bs : List Int} {at' : Nat} (h : Src w0 w g a cap bs at') (hb : Below w.heap.size w w') : Src w0 w' g a cap bs at' := by
  have hlt := src_lt h
  obtain ⟨h1, h2, h3, h4, h5, h6⟩ := h
  exact ⟨h1, h2.trans (hb.mono h2.size), h3, h4, h5, by rw [hb.block g hlt]; exact h6⟩
theorem xor8_bd (a b : Int) : 0 ≤ bits .xor .u8 a b ∧ bits .xor .u8 a b ≤ 255 := by
  show 0 ≤ IntKind.u8.wrap _ ∧ IntKind.u8.wrap _ ≤ 255
  rw [IntKind.wrap_u8']
  omega
theorem bytesL_set {ys : List Int} {r : Int} (h : BytesL ys) (i : Nat) (h1 : 0 ≤ r ∧ r ≤ 255) : BytesL (ys.set i r) := fun y hy => by
  rcases List.mem_or_eq_of_mem_set hy with h3 | h3
  · exact h y h3
  · rw [h3]; exact h1

set_option maxRecDepth 100000 in
set_option maxHeartbeats 2000000 in
theorem drawOpen_calls (a : Option Addr) (cap : Nat) (bs : List Int) (w : World) (hsl : Sl .u8 w (.slice a bs.length cap) bs) (hbd : ∀ x ∈ bs, 0 ≤ x ∧ x ≤ 255) (hlen : bs.length ≤ 1048576) :
    Calls Try.prog 10 #[.slice a bs.length cap] w fun e w' => ∃ gl cl n ys, e = .returned (.slice (some ⟨gl, 0, none⟩) n cl) ∧ OwB w.heap.size w' (.slice (some ⟨gl, 0, none⟩) n cl) ys ∧ ys.length = n ∧ n ≤ 163 ∧ BytesL ys ∧ Below w.heap.size w w' := by
  have HS := hid hsl
  have HB := hid hbd
  clear hsl hbd
  go_enter Try.func10, Try.ntmps10
  go_wp2_with fail
  refine (l1Source_calls a cap bs w w (Below.refl _ _) HS.out HB.out hlen).mono ?_
  rintro e w1 ⟨g, rfl, hs1, hg1⟩
  have hs1' := hid hs1
  have hw1 := hg1.size
  have hgl := src_lt hs1
  clear hs1 hg1 HS HB
  go_wp2_with fail
  refine (l1Pick_lit w _ g a cap bs _ 7 2 [0, 1, 2, 9, 20, 158, 161] _ hs1'.out (by omega) rfl rfl (by omega) (by omega)).mono ?_
  rintro e w2 ⟨r, rfl, hr, hs2, hg2⟩
  obtain ⟨n, hn, hn2⟩ : ∃ n : Nat, r = n ∧ n ≤ 161 := by
    simp only [List.mem_cons, List.not_mem_nil, or_false] at hr
    exact ⟨r.toNat, by omega, by omega⟩
  subst hn
  have hw2 := hg2.size
  simp at hw2
  have Hs2 := hid hs2
  clear hr hs2 hg2 hs1'
  go_wp2_with fail
  refine (l1Some_calls w _ g a cap bs _ n Hs2.out (by omega) (by omega)).mono ?_
  rintro e w3 ⟨gl, cl, ys, rfl, ho, hyl, hyb, hs3, hg3⟩
  have hw3 := hg3.size
  have hgl3 := src_lt hs3
  subst hyl
  have Ho := hid ho
  have Hs3 := hid hs3
  have hgg : g < gl := by have := (ho.block gl rfl).1; have := src_lt Hs2.out; omega
  clear ho hs3 hg3 Hs2
  go_wp2_with fail
  refine (l1Chance_calls w _ g a cap bs _ 5 Hs3.out (by omega) (by omega) (by omega)).mono ?_
  rintro e w4 ⟨c1, rfl, hs4, hg4⟩
  have hw4 := hg4.size
  have Ho4 := hid (Ho.out.kept hg4 (fun j e => by cases e; omega))
  have Hs4 := hid hs4
  clear hs4 hg4 Ho Hs3
  cases c1
  · go_wp2_with fail
    refine (l2Seal_calls _ ys _ (by have := Ho4.out.sl; exact this) hyb (by omega)).mono ?_
    rintro e w5 ⟨go, co, rfl, ho5, hb5⟩
    have hw5 := hb5.size
    have Ho5 := hid ho5
    have Hs5 := hid (src_later Hs4.out hb5)
    clear ho5 hb5 Hs4 Ho4
    go_wp2_with fail
    refine (l1Chance_calls w _ g a cap bs _ 3 Hs5.out (by omega) (by omega) (by omega)).mono ?_
    rintro e w6 ⟨c2, rfl, hs6, hg6⟩
    have hw6 := hg6.size
    have hgo := (Ho5.out.block go rfl).1
    have Ho6 := hid (Ho5.out.kept hg6 (fun j e => by cases e; omega))
    have Hs6 := hid hs6
    clear hs6 hg6 Ho5 Hs5
    cases c2
    · have Hb := hid Hs6.out.2.1
      have Ho7 := hid (Ho6.out.mono (base' := w.heap.size) (by omega))
      clear Hs6 Ho6
      go_wp2
      go_ret
      exact ⟨go, co, ys.length + 2, sealL ys, rfl, Ho7.out, sealL_len ys, by omega, sealL_bd hyb, Hb.out⟩
    · have Hs6d : Hid (Src w w6.drew g a cap bs (0 + 1 + ys.length + 1 + 1)) := src_drew Hs6.out 1
      have Ho6d : Hid (OwB w4.heap.size w6.drew (.slice (some ⟨go, 0, none⟩) (ys.length + 2) co) (sealL ys)) := Ho6.out
      have hb1 : (1 : Int) ≤ (ys.length : Int) + 2 := by omega
      have hb2 : (ys.length : Int) + 2 ≤ 2147483648 := by omega
      go_wp2_with fail
      refine wp_region_noPanic ?_
      refine wp_region_held_drew (S := fun _ => True) (by kernel_rfl) trivial (fun hHeld => ?_)
      (refine wpAnyH_take (i := 0) (v := ?_) rfl (by kernel_rfl) (by kernel_rfl) (by kernel_rfl) (fun _ _ _ h => h) (Or.inl ⟨by rfl, ?_⟩) hHeld ?_; rotate_left; (intro w hSw; (go_simp <;> with_reducible rfl)); simp only [List.getElem_toArray, List.getElem_cons_zero, Act.put, List.setIfInBounds_toArray, List.set_cons_zero, List.set_cons_succ])
      (refine wpAnyH_take (i := 1) (v := ?_) rfl (by kernel_rfl) (by kernel_rfl) (by kernel_rfl) (fun _ _ _ h => h) (Or.inl ⟨by rfl, ?_⟩) hHeld ?_; rotate_left; (intro w hSw; (go_simp <;> with_reducible rfl)); simp only [List.getElem_toArray, List.getElem_cons_zero, List.getElem_cons_succ, Act.put, List.setIfInBounds_toArray, List.set_cons_zero, List.set_cons_succ])
      (refine wpAnyH_take (i := 2) (v := ?_) rfl (by kernel_rfl) (by kernel_rfl) (by kernel_rfl) (fun _ _ _ h => h) (Or.inl ⟨by rfl, ?_⟩) hHeld ?_; rotate_left; (intro w hSw; (go_simp <;> with_reducible rfl)); simp only [List.getElem_toArray, List.getElem_cons_zero, List.getElem_cons_succ, Act.put, List.setIfInBounds_toArray, List.set_cons_zero, List.set_cons_succ])
      (refine wpAnyH_take (i := 3) (v := ?_) rfl (by kernel_rfl) (by kernel_rfl) (by kernel_rfl) (fun _ _ _ h => h) (Or.inl ⟨by rfl, ?_⟩) hHeld ?_; rotate_left; (intro w hSw; (go_simp <;> with_reducible rfl)); simp only [List.getElem_toArray, List.getElem_cons_zero, List.getElem_cons_succ, Act.put, List.setIfInBounds_toArray, List.set_cons_zero, List.set_cons_succ])
      (refine wpAnyH_take (i := 7) (v := ?_) rfl (by kernel_rfl) (by kernel_rfl) (by kernel_rfl) (fun _ _ _ h => h) (Or.inl ⟨by rfl, ?_⟩) hHeld ?_; rotate_left; (intro w hSw; (go_simp <;> with_reducible rfl)); simp only [List.getElem_toArray, List.getElem_cons_zero, List.getElem_cons_succ, Act.put, List.setIfInBounds_toArray, List.set_cons_zero, List.set_cons_succ])
      refine wpAnyH_ready (rs := [4]) (by kernel_rfl) (by simp) ?_
      refine (AllReadyH.cons rfl (fun K hK => ?_) AllReadyH.nil)
      go_simp
      (refine (l1Next_calls w _ g a cap bs _ ((ys.length : Int) + 2) Hs6d.out (by omega) hb1 hb2).mono ?_; rintro e w7 ⟨r, rfl, hr1, hr2, hs7, hg7⟩; obtain ⟨j, rfl⟩ := Int.eq_ofNat_of_zero_le hr1; have hj : j < (sealL ys).length := (by rw [sealL_len]; omega); have Ho7 := hid (Ho6d.out.kept hg7 (fun j e => by cases e; omega)); have Hs7 := hid hs7; obtain ⟨c7, f7⟩ := Ho7.out.cellAt (sealL_len ys).symm j hj; generalize (sealL ys).getD j 0 = y at c7; clear hs7 hg7)
      refine hK.out _ _ trivial (fun hHeld => ?_)
      clear hK K
      try simp only [List.getElem_toArray, List.getElem_cons_zero, List.getElem_cons_succ, Act.put, List.setIfInBounds_toArray, List.set_cons_zero, List.set_cons_succ]
      (refine wpAnyH_take (i := 5) (v := ?_) rfl (by kernel_rfl) (by kernel_rfl) (by kernel_rfl) (fun _ _ _ h => h) (Or.inl ⟨by rfl, ?_⟩) hHeld ?_; rotate_left; (intro w hSw; (go_simp <;> with_reducible rfl)); simp only [List.getElem_toArray, List.getElem_cons_zero, List.getElem_cons_succ, Act.put, List.setIfInBounds_toArray, List.set_cons_zero, List.set_cons_succ])
      refine wpAnyH_ready (rs := [6, 8]) (by kernel_rfl) (by simp) ?_
      refine (AllReadyH.cons rfl (fun K hK => ?_) (AllReadyH.cons rfl (fun K hK => ?_) AllReadyH.nil))
      · go_simp
        skip
        refine hK.out _ _ trivial (fun hHeld => ?_)
        clear hK K
        try simp only [List.getElem_toArray, List.getElem_cons_zero, List.getElem_cons_succ, Act.put, List.setIfInBounds_toArray, List.set_cons_zero, List.set_cons_succ]
        refine wpAnyH_ready (rs := [8]) (by kernel_rfl) (by simp) ?_
        refine (AllReadyH.cons rfl (fun K hK => ?_) AllReadyH.nil)
        go_simp
        (refine (l1Next_calls w _ g a cap bs _ 256 Hs7.out (by omega) (by omega) (by omega)).mono ?_; rintro e w8 ⟨r2, rfl, hq1, hq2, hs8, hg8⟩; have Ho8 := hid (Ho7.out.kept hg8 (fun j e => by cases e; omega)); have Hs8 := hid hs8; have c8 := (hg8.cell_far ⟨go, j, none⟩ (Ho7.out.block go rfl).2 (by simp; omega)).trans c7; have f8 := (hg8.frozen_far ⟨go, j, none⟩ (Ho7.out.block go rfl).2 (by simp; omega)).trans f7; have hrm : r2 % 256 = r2 := (by omega); clear hs8 hg8)
        refine hK.out _ _ trivial (fun hHeld => ?_)
        clear hK K
        try simp only [List.getElem_toArray, List.getElem_cons_zero, List.getElem_cons_succ, Act.put, List.setIfInBounds_toArray, List.set_cons_zero, List.set_cons_succ]
        (refine wpAnyH_take (i := 9) (v := ?_) rfl (by kernel_rfl) (by kernel_rfl) (by kernel_rfl) (fun _ _ _ h => h) (Or.inl ⟨by rfl, ?_⟩) hHeld ?_; rotate_left; (intro w hSw; (go_simp <;> with_reducible rfl)); simp only [List.getElem_toArray, List.getElem_cons_zero, List.getElem_cons_succ, Act.put, List.setIfInBounds_toArray, List.set_cons_zero, List.set_cons_succ])
        (refine wpAnyH_take (i := 10) (v := ?_) rfl (by kernel_rfl) (by kernel_rfl) (by kernel_rfl) (fun _ _ _ h => h) (Or.inl ⟨by rfl, ?_⟩) hHeld ?_; rotate_left; (intro w hSw; (go_simp <;> with_reducible rfl)); simp only [List.getElem_toArray, List.getElem_cons_zero, List.getElem_cons_succ, Act.put, List.setIfInBounds_toArray, List.set_cons_zero, List.set_cons_succ])
        (refine wpAnyH_take (i := 11) (v := ?_) rfl (by kernel_rfl) (by kernel_rfl) (by kernel_rfl) (fun _ _ _ h => h) (Or.inl ⟨by rfl, ?_⟩) hHeld ?_; rotate_left; (intro w hSw; (go_simp <;> with_reducible rfl)); simp only [List.getElem_toArray, List.getElem_cons_zero, List.getElem_cons_succ, Act.put, List.setIfInBounds_toArray, List.set_cons_zero, List.set_cons_succ])
        refine wpAnyH_ready (rs := [12]) (by kernel_rfl) (by simp) ?_
        refine (AllReadyH.cons rfl (fun K hK => ?_) AllReadyH.nil)
        go_simp
        skip
        refine hK.out _ _ trivial (fun hHeld => ?_)
        clear hK K
        try simp only [List.getElem_toArray, List.getElem_cons_zero, List.getElem_cons_succ, Act.put, List.setIfInBounds_toArray, List.set_cons_zero, List.set_cons_succ]
        refine wpAnyH_done (by kernel_rfl) ?_ _
        refine NoPanic.normal ?_
        have Hx := hid (bytesL_set (sealL_bd hyb) j (xor8_bd y (IntKind.u8.wrap r2)))
        have HO9 := hid ((Ho8.out.set (sealL_len ys).symm j (bits .xor .u8 y (IntKind.u8.wrap r2))).1.mono (base' := w.heap.size) (by omega))
        have HB9 := hid (Hs8.out.2.1.setCell (p := ⟨go, j, none⟩) (by show w.heap.size ≤ go; omega) (.int .u8 (bits .xor .u8 y (IntKind.u8.wrap r2))))
        generalize bits .xor .u8 y (IntKind.u8.wrap r2) = z at *
        clear Ho6 Hs6 Hs6d Ho6d Ho7 Hs7 Ho8 Hs8 c7 f7 c8 f8 hrm
        go_wp2
        go_ret
        exact ⟨go, co, ys.length + 2, (sealL ys).set j z, rfl, HO9.out, by rw [List.length_set, sealL_len], by omega, Hx.out, HB9.out⟩
      · go_simp
        (refine (l1Next_calls w _ g a cap bs _ 256 Hs7.out (by omega) (by omega) (by omega)).mono ?_; rintro e w8 ⟨r2, rfl, hq1, hq2, hs8, hg8⟩; have Ho8 := hid (Ho7.out.kept hg8 (fun j e => by cases e; omega)); have Hs8 := hid hs8; have c8 := (hg8.cell_far ⟨go, j, none⟩ (Ho7.out.block go rfl).2 (by simp; omega)).trans c7; have f8 := (hg8.frozen_far ⟨go, j, none⟩ (Ho7.out.block go rfl).2 (by simp; omega)).trans f7; have hrm : r2 % 256 = r2 := (by omega); clear hs8 hg8)
        refine hK.out _ _ trivial (fun hHeld => ?_)
        clear hK K
        try simp only [List.getElem_toArray, List.getElem_cons_zero, List.getElem_cons_succ, Act.put, List.setIfInBounds_toArray, List.set_cons_zero, List.set_cons_succ]
        (refine wpAnyH_take (i := 9) (v := ?_) rfl (by kernel_rfl) (by kernel_rfl) (by kernel_rfl) (fun _ _ _ h => h) (Or.inl ⟨by rfl, ?_⟩) hHeld ?_; rotate_left; (intro w hSw; (go_simp <;> with_reducible rfl)); simp only [List.getElem_toArray, List.getElem_cons_zero, List.getElem_cons_succ, Act.put, List.setIfInBounds_toArray, List.set_cons_zero, List.set_cons_succ])
        refine wpAnyH_ready (rs := [6]) (by kernel_rfl) (by simp) ?_
        refine (AllReadyH.cons rfl (fun K hK => ?_) AllReadyH.nil)
        go_simp
        skip
        refine hK.out _ _ trivial (fun hHeld => ?_)
        clear hK K
        try simp only [List.getElem_toArray, List.getElem_cons_zero, List.getElem_cons_succ, Act.put, List.setIfInBounds_toArray, List.set_cons_zero, List.set_cons_succ]
        (refine wpAnyH_take (i := 10) (v := ?_) rfl (by kernel_rfl) (by kernel_rfl) (by kernel_rfl) (fun _ _ _ h => h) (Or.inl ⟨by rfl, ?_⟩) hHeld ?_; rotate_left; (intro w hSw; (go_simp <;> with_reducible rfl)); simp only [List.getElem_toArray, List.getElem_cons_zero, List.getElem_cons_succ, Act.put, List.setIfInBounds_toArray, List.set_cons_zero, List.set_cons_succ])
        (refine wpAnyH_take (i := 11) (v := ?_) rfl (by kernel_rfl) (by kernel_rfl) (by kernel_rfl) (fun _ _ _ h => h) (Or.inl ⟨by rfl, ?_⟩) hHeld ?_; rotate_left; (intro w hSw; (go_simp <;> with_reducible rfl)); simp only [List.getElem_toArray, List.getElem_cons_zero, List.getElem_cons_succ, Act.put, List.setIfInBounds_toArray, List.set_cons_zero, List.set_cons_succ])
        refine wpAnyH_ready (rs := [12]) (by kernel_rfl) (by simp) ?_
        refine (AllReadyH.cons rfl (fun K hK => ?_) AllReadyH.nil)
        go_simp
        skip
        refine hK.out _ _ trivial (fun hHeld => ?_)
        clear hK K
        try simp only [List.getElem_toArray, List.getElem_cons_zero, List.getElem_cons_succ, Act.put, List.setIfInBounds_toArray, List.set_cons_zero, List.set_cons_succ]
        refine wpAnyH_done (by kernel_rfl) ?_ _
        refine NoPanic.normal ?_
        have Hx := hid (bytesL_set (sealL_bd hyb) j (xor8_bd y (IntKind.u8.wrap r2)))
        have HO9 := hid ((Ho8.out.set (sealL_len ys).symm j (bits .xor .u8 y (IntKind.u8.wrap r2))).1.mono (base' := w.heap.size) (by omega))
        have HB9 := hid (Hs8.out.2.1.setCell (p := ⟨go, j, none⟩) (by show w.heap.size ≤ go; omega) (.int .u8 (bits .xor .u8 y (IntKind.u8.wrap r2))))
        generalize bits .xor .u8 y (IntKind.u8.wrap r2) = z at *
        clear Ho6 Hs6 Hs6d Ho6d Ho7 Hs7 Ho8 Hs8 c7 f7 c8 f8 hrm
        go_wp2
        go_ret
        exact ⟨go, co, ys.length + 2, (sealL ys).set j z, rfl, HO9.out, by rw [List.length_set, sealL_len], by omega, Hx.out, HB9.out⟩
  · have Hb := hid Hs4.out.2.1
    have Ho5 := hid (Ho4.out.mono (base' := w.heap.size) (by omega))
    clear Ho4 Hs4
    go_wp2
    go_ret
    exact ⟨gl, cl, ys.length, ys, rfl, Ho5.out, rfl, by omega, hyb, Hb.out⟩
end Go.Proofs.Ytlljdehjlbmgcaa.SealD
