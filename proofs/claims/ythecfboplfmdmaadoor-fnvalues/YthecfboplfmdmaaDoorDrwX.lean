/- The draws of bytes that tell values, or nearly so. -/
import Derived.Test.YthecfboplfmdmaaDoorDrwW
namespace Go.Proofs.YthecfboplfmdmaaDoor.DrwX
open Go.ChangeShapes Go.WideShapes Go.ChangeAt Go.RowKit Go.Proofs.YthecfboplfmdmaaDoor.Num Go.Proofs.YthecfboplfmdmaaDoor.Sli Go.Proofs.YthecfboplfmdmaaDoor.App Go.Proofs.YthecfboplfmdmaaDoor.Src Go.Proofs.YthecfboplfmdmaaDoor.CrcM Go.Proofs.YthecfboplfmdmaaDoor.ValZ Go.Proofs.YthecfboplfmdmaaDoor.ValM Go.Proofs.YthecfboplfmdmaaDoor.RangeM Go.Proofs.YthecfboplfmdmaaDoor.EncV Go.Proofs.YthecfboplfmdmaaDoor.RdL Go.Proofs.YthecfboplfmdmaaDoor.DrwV Go.Proofs.YthecfboplfmdmaaDoor.SomD Go.Proofs.YthecfboplfmdmaaDoor.DrwW
open Go.Proofs.YthecfboplfmdmaaDoor.Byt (OwB infoB)
open Go.Proofs.YthecfboplfmdmaaDoor.IntL (OwI)

theorem src_later {w0 w w' : World} {g : Nat} {a : Option Addr} {cap : Nat} {bs : List Int} {at' : Nat} (h : Src w0 w g a cap bs at') (hb : Below w.heap.size w w') : Src w0 w' g a cap bs at' := by
  have hlt := src_lt h
  obtain ⟨h1, h2, h3, h4, h5, h6⟩ := h
  exact ⟨h1, h2.trans (hb.mono h2.size), h3, h4, h5, by rw [hb.block g hlt]; exact h6⟩
theorem xor8_bd (a b : Int) : 0 ≤ bits .xor .u8 a b ∧ bits .xor .u8 a b ≤ 255 := by
  show 0 ≤ IntKind.u8.wrap _ ∧ IntKind.u8.wrap _ ≤ 255
  rw [IntKind.wrap_u8']
  omega
theorem bytesL_set {ys : List Int} {r : Int} (h : BytesL ys) (i : Nat) (h1 : 0 ≤ r ∧ r ≤ 255) : BytesL (ys.set i r) := fun y hy => by
  rcases List.mem_or_eq_of_mem_set hy with h3 | h3
  · exact h y h3
  · rw [h3]; exact h1
set_option maxRecDepth 100000 in
set_option maxHeartbeats 4000000 in
theorem drawDecV_calls (a : Option Addr) (cap : Nat) (bs : List Int) (w : World) (hsl : Sl .u8 w (.slice a bs.length cap) bs) (hbd : ∀ x ∈ bs, 0 ≤ x ∧ x ≤ 255) (hlen : bs.length ≤ 1048576) :
    Calls Tryd.prog 9 #[.slice a bs.length cap] w fun e w' => ∃ (g c : Nat) (ds : List Int) (n : Int), e = .returned (.tuple #[.slice (some ⟨g, 0, none⟩) ds.length c, .int .i64 n]) ∧ ds.length ≤ 700 ∧ BytesL ds ∧ Sl .u8 w' (.slice (some ⟨g, 0, none⟩) ds.length c) ds ∧ Below w.heap.size w w' := by
  obtain ⟨i0, hi, hz0, hz1, hz2⟩ := info_parts infoB
  have HS := hid (l1Source_calls a cap bs w w (Below.refl _ _) hsl hbd hlen)
  clear hsl hbd
  go_enter Tryd.func9, Tryd.ntmps9
  go_wp2_with fail
  refine HS.out.mono ?_
  rintro e w1 ⟨g, rfl, hs1, _⟩
  have H1 := hid hs1
  clear hs1 HS
  go_wp2_with fail
  refine (l1Pick_lit w _ g a cap bs _ 6 2 [0, 1, 2, 5, 9, 20] _ H1.out (by omega) rfl rfl (by omega) (by omega)).mono ?_
  rintro e w2 ⟨r, rfl, hr, hs2, _⟩
  obtain ⟨n, hn, hn2⟩ : ∃ n : Nat, r = n ∧ n ≤ 20 := by
    simp only [List.mem_cons, List.not_mem_nil, or_false] at hr
    exact ⟨r.toNat, by omega, by omega⟩
  subst hn
  have H2 := hid hs2
  clear hs2 H1 hr
  go_wp2_with fail
  refine (l4List_calls w _ g a cap bs _ n H2.out (by omega) (by omega)).mono ?_
  rintro e w3 ⟨gl, cl, ys, rfl, ho3, hyl, hav, hs3, _⟩
  have Ho3 := hid ho3
  have H3 := hid hs3
  subst hyl
  have hvb := vB_len hav
  have Hall := hid ((allB_iff ys).2 hav)
  have Hbb : Hid (BytesL (vB ys)) := encL_bd _
  clear ho3 hs3 H2 hav
  go_wp2_with fail
  refine (l4Encode_calls _ ys _ Ho3.out.sl (by omega) Hall.out).mono ?_
  rintro e w4 ⟨gd, cd, rfl, ho4, hb4⟩
  have H4 := hid (src_later H3.out hb4)
  have hgl3 := src_lt H3.out
  have hw3 := H3.out.2.1.size
  have Ho4 := hid ho4
  have hbl := ho4.block gd rfl
  clear ho4 hb4 H3 Ho3 Hall
  generalize vB ys = ds at *
  have hdl : ds.length ≤ 63 := by omega
  have hyI : (ys.length : Int) ≤ 20 := by omega
  generalize ys.length = n at *
  clear hvb
  go_wp2_with fail
  refine (l1Next_calls w _ g a cap bs _ 7 H4.out (by omega) (by omega) (by omega)).mono ?_
  rintro e w5 ⟨r, rfl, hr1, hr2, hs5, hg5⟩
  have H5 := hid hs5
  have Ho5 := hid (Ho4.out.kept hg5 (fun j e => by cases e; omega))
  clear hs5 hg5 H4 Ho4
  have hrc : r = 0 ∨ r = 1 ∨ r = 2 ∨ r = 3 ∨ (r ≠ 0 ∧ r ≠ 1 ∧ r ≠ 2 ∧ r ≠ 3) := by omega
  rcases hrc with rfl | rfl | rfl | rfl | ⟨r0, r1, r2, r3⟩
  · go_wp2_with fail
    refine (l1Pick_lit w _ g a cap bs _ 6 2 [0, 1, 3, 8, 600, 601] _ H5.out (by omega) rfl rfl (by omega) (by omega)).mono ?_
    rintro e w6 ⟨q, rfl, hq, hs6, _⟩
    obtain ⟨m, hm, hm2⟩ : ∃ m : Nat, q = m ∧ m ≤ 601 := by
      simp only [List.mem_cons, List.not_mem_nil, or_false] at hq
      exact ⟨q.toNat, by omega, by omega⟩
    subst hm
    have H6 := hid hs6
    clear hs6 H5 hq Ho5
    go_wp2_with fail
    refine (l1Some_calls w _ g a cap bs _ m H6.out (by omega) (by omega)).mono ?_
    rintro e w7 ⟨gs, cs, zs, rfl, ho7, hzl, hzb, hs7, _⟩
    have hgl6 := src_lt H6.out
    have hw6 := H6.out.2.1.size
    have H7 := hid hs7
    have Ho7 := hid ho7
    have hb7 := ho7.block gs rfl
    have Hzb := hid hzb
    subst hzl
    clear hs7 ho7 H6 hzb
    go_wp2_with fail
    refine (l1Pick_lit w _ g a cap bs _ 6 2 [0, 1, 3, 64, 65, -1] _ H7.out (by omega) rfl rfl (by omega) (by omega)).mono ?_
    rintro e w8 ⟨q2, rfl, _, hs8, hg8⟩
    have Ho8 := hid ((Ho7.out.alloc (.cells #[.int .i64 0, .int .i64 1, .int .i64 3, .int .i64 64, .int .i64 65, .int .i64 (-1)] 2)).kept hg8 (fun j e => by cases e; omega))
    have HL := hid hs8.2.1
    clear hs8 hg8 H7 Ho7
    go_wp2
    go_ret2
    exact ⟨gs, cs, zs, q2, rfl, by omega, Hzb.out, Ho8.out.sl, HL.out⟩
  · by_cases h0 : ds.length = 0
    · have hI : ¬ (0 : Int) < (ds.length : Int) := by omega
      have HL := hid H5.out.2.1
      clear H5 h0
      go_wp2
      go_ret2
      exact ⟨gd, cd, ds, _, rfl, by omega, Hbb.out, Ho5.out.sl, HL.out⟩
    · have hI : (0 : Int) < (ds.length : Int) := by omega
      have Hs6d : Hid (Src w w5.drew g a cap bs _) := src_drew H5.out 1
      have Ho6d : Hid (OwB w3.heap.size w5.drew (.slice (some ⟨gd, 0, none⟩) ds.length cd) ds) := Ho5.out
      have hb1 : (1 : Int) ≤ (ds.length : Int) := by omega
      have hb2 : (ds.length : Int) ≤ 2147483648 := by omega
      have hd3 : ds.length ≤ 700 := by omega
      go_wp2_with fail
      refine wp_region_noPanic ?_
      refine wp_region_held_drew (S := fun _ => True) (by kernel_rfl) trivial (fun hHeld => ?_)
      (refine wpAnyH_take (i := 0) (v := ?_) rfl (by kernel_rfl) (by kernel_rfl) (by kernel_rfl) (fun _ _ _ h => h) (Or.inl ⟨by rfl, ?_⟩) hHeld ?_; rotate_left; (intro w hSw; skip; (go_simp <;> with_reducible rfl)); simp only [List.getElem_toArray, List.getElem_cons_zero, Act.put, List.setIfInBounds_toArray, List.set_cons_zero, List.set_cons_succ])
      (refine wpAnyH_take (i := 1) (v := ?_) rfl (by kernel_rfl) (by kernel_rfl) (by kernel_rfl) (fun _ _ _ h => h) (Or.inl ⟨by rfl, ?_⟩) hHeld ?_; rotate_left; (intro w hSw; skip; (go_simp <;> with_reducible rfl)); simp only [List.getElem_toArray, List.getElem_cons_zero, List.getElem_cons_succ, Act.put, List.setIfInBounds_toArray, List.set_cons_zero, List.set_cons_succ])
      (refine wpAnyH_take (i := 2) (v := ?_) rfl (by kernel_rfl) (by kernel_rfl) (by kernel_rfl) (fun _ _ _ h => h) (Or.inl ⟨by rfl, ?_⟩) hHeld ?_; rotate_left; (intro w hSw; skip; (go_simp <;> with_reducible rfl)); simp only [List.getElem_toArray, List.getElem_cons_zero, List.getElem_cons_succ, Act.put, List.setIfInBounds_toArray, List.set_cons_zero, List.set_cons_succ])
      (refine wpAnyH_take (i := 3) (v := ?_) rfl (by kernel_rfl) (by kernel_rfl) (by kernel_rfl) (fun _ _ _ h => h) (Or.inl ⟨by rfl, ?_⟩) hHeld ?_; rotate_left; (intro w hSw; skip; (go_simp <;> with_reducible rfl)); simp only [List.getElem_toArray, List.getElem_cons_zero, List.getElem_cons_succ, Act.put, List.setIfInBounds_toArray, List.set_cons_zero, List.set_cons_succ])
      (refine wpAnyH_take (i := 7) (v := ?_) rfl (by kernel_rfl) (by kernel_rfl) (by kernel_rfl) (fun _ _ _ h => h) (Or.inl ⟨by rfl, ?_⟩) hHeld ?_; rotate_left; (intro w hSw; skip; (go_simp <;> with_reducible rfl)); simp only [List.getElem_toArray, List.getElem_cons_zero, List.getElem_cons_succ, Act.put, List.setIfInBounds_toArray, List.set_cons_zero, List.set_cons_succ])
      refine wpAnyH_ready (rs := [4]) (by kernel_rfl) (by simp) ?_
      refine (AllReadyH.cons rfl (fun K hK => ?_) AllReadyH.nil)
      go_simp
      (refine (l1Next_calls w _ g a cap bs _ (ds.length : Int) Hs6d.out (by omega) hb1 hb2).mono ?_; rintro e w7 ⟨r, rfl, hr1, hr2, hs7, hg7⟩; obtain ⟨j, rfl⟩ := Int.eq_ofNat_of_zero_le hr1; have hj : j < ds.length := (by omega); have Ho7 := hid (Ho6d.out.kept hg7 (fun j e => by cases e; omega)); have Hs7 := hid hs7; obtain ⟨c7, f7⟩ := Ho7.out.cellAt rfl j hj; generalize ds.getD j 0 = y at c7; clear hs7 hg7)
      refine hK.out _ _ trivial (fun hHeld => ?_)
      clear hK K
      try dsimp only
      (refine wpAnyH_take (i := 5) (v := ?_) rfl (by kernel_rfl) (by kernel_rfl) (by kernel_rfl) (fun _ _ _ h => h) (Or.inl ⟨by rfl, ?_⟩) hHeld ?_; rotate_left; (intro w hSw; skip; (go_simp <;> with_reducible rfl)); simp only [List.getElem_toArray, List.getElem_cons_zero, List.getElem_cons_succ, Act.put, List.setIfInBounds_toArray, List.set_cons_zero, List.set_cons_succ])
      refine wpAnyH_ready (rs := [6, 8]) (by kernel_rfl) (by simp) ?_
      refine (AllReadyH.cons rfl (fun K hK => ?_) (AllReadyH.cons rfl (fun K hK => ?_) AllReadyH.nil))
      · go_simp
        skip
        refine hK.out _ _ trivial (fun hHeld => ?_)
        clear hK K
        try simp only [List.getElem_toArray, List.getElem_cons_zero, List.getElem_cons_succ, Act.put, List.setIfInBounds_toArray, List.set_cons_zero, List.set_cons_succ]
        refine wpAnyH_ready (rs := [8]) (by kernel_rfl) (by simp) ?_
        refine (AllReadyH.cons rfl (fun K hK => ?_) AllReadyH.nil)
        go_simp
        (refine (l1Next_calls w _ g a cap bs _ 255 Hs7.out (by omega) (by omega) (by omega)).mono ?_; rintro e w8 ⟨r2, rfl, hq1, hq2, hs8, hg8⟩; have Ho8 := hid (Ho7.out.kept hg8 (fun j e => by cases e; omega)); have Hs8 := hid hs8; have c8 := (hg8.cell_far ⟨gd, j, none⟩ (Ho7.out.block gd rfl).2 (by simp; omega)).trans c7; have f8 := (hg8.frozen_far ⟨gd, j, none⟩ (Ho7.out.block gd rfl).2 (by simp; omega)).trans f7; have hrm : IntKind.i64.wrap (1 + r2) = 1 + r2 := wrapk_of (by omega) (by omega); clear hs8 hg8)
        refine hK.out _ _ trivial (fun hHeld => ?_)
        clear hK K
        try dsimp only
        (refine wpAnyH_take (i := 9) (v := ?_) rfl (by kernel_rfl) (by kernel_rfl) (by kernel_rfl) (fun _ _ _ h => h) (Or.inl ⟨by rfl, ?_⟩) hHeld ?_; rotate_left; (intro w hSw; skip; (go_simp <;> with_reducible rfl)); simp only [List.getElem_toArray, List.getElem_cons_zero, List.getElem_cons_succ, Act.put, List.setIfInBounds_toArray, List.set_cons_zero, List.set_cons_succ])
        (refine wpAnyH_take (i := 10) (v := ?_) rfl (by kernel_rfl) (by kernel_rfl) (by kernel_rfl) (fun _ _ _ h => h) (Or.inl ⟨by rfl, ?_⟩) hHeld ?_; rotate_left; (intro w hSw; skip; (go_simp <;> with_reducible rfl)); simp only [List.getElem_toArray, List.getElem_cons_zero, List.getElem_cons_succ, Act.put, List.setIfInBounds_toArray, List.set_cons_zero, List.set_cons_succ])
        (refine wpAnyH_take (i := 11) (v := ?_) rfl (by kernel_rfl) (by kernel_rfl) (by kernel_rfl) (fun _ _ _ h => h) (Or.inl ⟨by rfl, ?_⟩) hHeld ?_; rotate_left; (intro w hSw; skip; (go_simp <;> with_reducible rfl)); simp only [List.getElem_toArray, List.getElem_cons_zero, List.getElem_cons_succ, Act.put, List.setIfInBounds_toArray, List.set_cons_zero, List.set_cons_succ])
        (refine wpAnyH_take (i := 12) (v := ?_) rfl (by kernel_rfl) (by kernel_rfl) (by kernel_rfl) (fun _ _ _ h => h) (Or.inl ⟨by rfl, ?_⟩) hHeld ?_; rotate_left; (intro w hSw; skip; (go_simp <;> with_reducible rfl)); simp only [List.getElem_toArray, List.getElem_cons_zero, List.getElem_cons_succ, Act.put, List.setIfInBounds_toArray, List.set_cons_zero, List.set_cons_succ])
        refine wpAnyH_ready (rs := [13]) (by kernel_rfl) (by simp) ?_
        refine (AllReadyH.cons rfl (fun K hK => ?_) AllReadyH.nil)
        go_simp
        skip
        refine hK.out _ _ trivial (fun hHeld => ?_)
        clear hK K
        try simp only [List.getElem_toArray, List.getElem_cons_zero, List.getElem_cons_succ, Act.put, List.setIfInBounds_toArray, List.set_cons_zero, List.set_cons_succ]
        refine wpAnyH_done (by kernel_rfl) ?_ _
        refine NoPanic.normal ?_
        have Hx := hid (bytesL_set Hbb.out j (xor8_bd y (IntKind.u8.wrap (1 + r2))))
        have HO9 := hid ((Ho8.out.set rfl j (bits .xor .u8 y (IntKind.u8.wrap (1 + r2)))).1.mono (base' := w.heap.size) (by omega))
        have HB9 := hid (Hs8.out.2.1.setCell (p := ⟨gd, j, none⟩) (by show w.heap.size ≤ gd; omega) (.int .u8 (bits .xor .u8 y (IntKind.u8.wrap (1 + r2)))))
        generalize bits .xor .u8 y (IntKind.u8.wrap (1 + r2)) = z at *
        clear H5 Ho5 Hs6d Ho6d Ho7 Hs7 Ho8 Hs8 c7 f7 c8 f8 hrm
        go_wp2
        go_ret2
        exact ⟨gd, cd, ds.set j z, _, by rw [List.length_set]; rfl, by rw [List.length_set]; exact hd3, Hx.out, by rw [List.length_set]; exact HO9.out.sl, HB9.out⟩
      · go_simp
        (refine (l1Next_calls w _ g a cap bs _ 255 Hs7.out (by omega) (by omega) (by omega)).mono ?_; rintro e w8 ⟨r2, rfl, hq1, hq2, hs8, hg8⟩; have Ho8 := hid (Ho7.out.kept hg8 (fun j e => by cases e; omega)); have Hs8 := hid hs8; have c8 := (hg8.cell_far ⟨gd, j, none⟩ (Ho7.out.block gd rfl).2 (by simp; omega)).trans c7; have f8 := (hg8.frozen_far ⟨gd, j, none⟩ (Ho7.out.block gd rfl).2 (by simp; omega)).trans f7; have hrm : IntKind.i64.wrap (1 + r2) = 1 + r2 := wrapk_of (by omega) (by omega); clear hs8 hg8)
        refine hK.out _ _ trivial (fun hHeld => ?_)
        clear hK K
        try dsimp only
        (refine wpAnyH_take (i := 9) (v := ?_) rfl (by kernel_rfl) (by kernel_rfl) (by kernel_rfl) (fun _ _ _ h => h) (Or.inl ⟨by rfl, ?_⟩) hHeld ?_; rotate_left; (intro w hSw; skip; (go_simp <;> with_reducible rfl)); simp only [List.getElem_toArray, List.getElem_cons_zero, List.getElem_cons_succ, Act.put, List.setIfInBounds_toArray, List.set_cons_zero, List.set_cons_succ])
        (refine wpAnyH_take (i := 10) (v := ?_) rfl (by kernel_rfl) (by kernel_rfl) (by kernel_rfl) (fun _ _ _ h => h) (Or.inl ⟨by rfl, ?_⟩) hHeld ?_; rotate_left; (intro w hSw; skip; (go_simp <;> with_reducible rfl)); simp only [List.getElem_toArray, List.getElem_cons_zero, List.getElem_cons_succ, Act.put, List.setIfInBounds_toArray, List.set_cons_zero, List.set_cons_succ])
        refine wpAnyH_ready (rs := [6]) (by kernel_rfl) (by simp) ?_
        refine (AllReadyH.cons rfl (fun K hK => ?_) AllReadyH.nil)
        go_simp
        skip
        refine hK.out _ _ trivial (fun hHeld => ?_)
        clear hK K
        try simp only [List.getElem_toArray, List.getElem_cons_zero, List.getElem_cons_succ, Act.put, List.setIfInBounds_toArray, List.set_cons_zero, List.set_cons_succ]
        (refine wpAnyH_take (i := 11) (v := ?_) rfl (by kernel_rfl) (by kernel_rfl) (by kernel_rfl) (fun _ _ _ h => h) (Or.inl ⟨by rfl, ?_⟩) hHeld ?_; rotate_left; (intro w hSw; skip; (go_simp <;> with_reducible rfl)); simp only [List.getElem_toArray, List.getElem_cons_zero, List.getElem_cons_succ, Act.put, List.setIfInBounds_toArray, List.set_cons_zero, List.set_cons_succ])
        (refine wpAnyH_take (i := 12) (v := ?_) rfl (by kernel_rfl) (by kernel_rfl) (by kernel_rfl) (fun _ _ _ h => h) (Or.inl ⟨by rfl, ?_⟩) hHeld ?_; rotate_left; (intro w hSw; skip; (go_simp <;> with_reducible rfl)); simp only [List.getElem_toArray, List.getElem_cons_zero, List.getElem_cons_succ, Act.put, List.setIfInBounds_toArray, List.set_cons_zero, List.set_cons_succ])
        refine wpAnyH_ready (rs := [13]) (by kernel_rfl) (by simp) ?_
        refine (AllReadyH.cons rfl (fun K hK => ?_) AllReadyH.nil)
        go_simp
        skip
        refine hK.out _ _ trivial (fun hHeld => ?_)
        clear hK K
        try simp only [List.getElem_toArray, List.getElem_cons_zero, List.getElem_cons_succ, Act.put, List.setIfInBounds_toArray, List.set_cons_zero, List.set_cons_succ]
        refine wpAnyH_done (by kernel_rfl) ?_ _
        refine NoPanic.normal ?_
        have Hx := hid (bytesL_set Hbb.out j (xor8_bd y (IntKind.u8.wrap (1 + r2))))
        have HO9 := hid ((Ho8.out.set rfl j (bits .xor .u8 y (IntKind.u8.wrap (1 + r2)))).1.mono (base' := w.heap.size) (by omega))
        have HB9 := hid (Hs8.out.2.1.setCell (p := ⟨gd, j, none⟩) (by show w.heap.size ≤ gd; omega) (.int .u8 (bits .xor .u8 y (IntKind.u8.wrap (1 + r2)))))
        generalize bits .xor .u8 y (IntKind.u8.wrap (1 + r2)) = z at *
        clear H5 Ho5 Hs6d Ho6d Ho7 Hs7 Ho8 Hs8 c7 f7 c8 f8 hrm
        go_wp2
        go_ret2
        exact ⟨gd, cd, ds.set j z, _, by rw [List.length_set]; rfl, by rw [List.length_set]; exact hd3, Hx.out, by rw [List.length_set]; exact HO9.out.sl, HB9.out⟩
  · have HL := hid H5.out.2.1
    clear H5
    go_wp2
    go_ret2
    exact ⟨gd, cd, ds, _, rfl, by omega, Hbb.out, Ho5.out.sl, HL.out⟩
  · have Hoa := hid (Ho5.out.alloc (.cells #[.int .u8 0] 5))
    have HL := hid (bmore H5.out.2.1 (.cells #[.int .u8 0] 5))
    have h3 := Ho5.out.block gd rfl
    have hw5 := H5.out.2.1.size
    clear H5
    go_wp2_with (at_builtin; refine wpList_append_sl _ rfl _ _ 22 rfl w3.heap.size 5 i0 .u8 0 1 Tryd.underlying22 hi hz0 hz1 hz2 (by decide) gd ds.length cd ds rfl rfl Hoa.out _ [0] rfl (sl_lit _ _ _ _ _ _ rfl rfl) ?c1 ?c2 ?_)
    case c1 => simp only [List.length_singleton]; omega
    case c2 => simp; omega
    intro g6 c6 w6 ho6 hg6 _
    have Ho6 := hid ho6.sl
    have HL6 := hid (HL.out.trans (below_of_grown hg6 (by simp; omega) (fun i e => by cases e; omega)))
    have Hb6 := hid (bytesL_snoc (r := 0) Hbb.out (by omega) (by omega))
    have He : Hid (ds.length + 1 = (ds ++ [(0 : Int)]).length) := by show _ = _; simp
    clear ho6 hg6 HL Hoa Ho5
    go_wp2
    go_ret2
    exact ⟨g6, c6, ds ++ [0], _, by rw [← He.out]; rfl, by rw [← He.out]; omega, Hb6.out, by rw [← He.out]; exact Ho6.out, HL6.out⟩
  · have HL := hid H5.out.2.1
    have k0 : (r == 0) = false := beq_eq_false_iff_ne.2 r0
    have k1 : (r == 1) = false := beq_eq_false_iff_ne.2 r1
    have k2 : (r == 2) = false := beq_eq_false_iff_ne.2 r2
    have k3 : (r == 3) = false := beq_eq_false_iff_ne.2 r3
    clear H5 r0 r1 r2 r3
    go_wp2
    go_ret2
    exact ⟨gd, cd, ds, _, rfl, by omega, Hbb.out, Ho5.out.sl, HL.out⟩
end Go.Proofs.YthecfboplfmdmaaDoor.DrwX
