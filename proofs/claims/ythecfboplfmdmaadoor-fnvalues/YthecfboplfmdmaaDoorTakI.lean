/- The program's TakeSlot. -/
import Derived.Test.YthecfboplfmdmaaDoorStaI
import Derived.Deep.CutBlock
namespace Go.Proofs.YthecfboplfmdmaaDoor.TakI
open Go.ChangeShapes Go.WideShapes Go.ChangeAt Go.RowKit Go.Proofs.YthecfboplfmdmaaDoor.Num Go.Proofs.YthecfboplfmdmaaDoor.Sli Go.Proofs.YthecfboplfmdmaaDoor.App Go.Proofs.YthecfboplfmdmaaDoor.Byt Go.Proofs.YthecfboplfmdmaaDoor.CrcM Go.Proofs.YthecfboplfmdmaaDoor.Str Go.Proofs.YthecfboplfmdmaaDoor.Div Go.Proofs.YthecfboplfmdmaaDoor.Dec Go.Proofs.YthecfboplfmdmaaDoor.Blk Go.Proofs.YthecfboplfmdmaaDoor.Nxt Go.Proofs.YthecfboplfmdmaaDoor.Byte Go.Proofs.YthecfboplfmdmaaDoor.TakS Go.Proofs.YthecfboplfmdmaaDoor.TakT Go.Proofs.YthecfboplfmdmaaDoor.RngF Go.Proofs.YthecfboplfmdmaaDoor.Itr Go.Proofs.YthecfboplfmdmaaDoor.StaI
attribute [local go_sem] Oper.semAt_some

theorem fieldV (c v : Value) (w : World) : (Instr.field 70 (.agg #[c, v]) 1).run Tryd.prog w = .ok v w := by kernel_rfl
attribute [local go_sem] fieldV
theorem next_ok {n : Nat} {at' rst rng tot : Int} (hd : dF n at' rst rng = 0) (ht : inB 1 1024 tot = true) : nC n at' rst rng tot = 0 ∧ nO n at' rst rng tot = nV rst rng tot := by
  unfold nC nO; rw [if_pos hd, if_pos hd, ht]; exact ⟨rfl, rfl⟩

/-- The failing ways. -/
theorem implTake_fail (a : Option Addr) (cap : Nat) (xs : List Int) (at' rst rng lo sz tot : Int) (w : World) (hlen : xs.length ≤ 1048576) (hf : ¬ tC ⟨xs, at', rst, rng⟩ lo sz tot = 0) :
    Calls Tryd.prog 105 #[.agg #[.slice a xs.length cap, .int .i64 at', .int .i64 rst, .int .i64 rng], .agg #[.int .i64 lo, .int .i64 sz, .int .i64 tot]] w (DR w (tC ⟨xs, at', rst, rng⟩ lo sz tot) dv0) := by
  by_cases hd : dF xs.length at' rst rng = 0
  · by_cases hs : sF lo sz tot = 0
    · obtain ⟨⟨h3, h4⟩, ⟨h5, h5'⟩, h6, h7⟩ := of_sF hs
      by_cases hfu : 9996 < at'
      · obtain ⟨e1, e2⟩ := tC_full (d := ⟨xs, at', rst, rng⟩) hd hs hfu
        rw [e1]
        clear hf e1 e2
        go_enter Tryd.func105, Tryd.ntmps105
        go_wp2_with fail
        refine (implDF_calls _ _ _ _ _ _ _ hlen).mono ?_
        rintro e w1 ⟨rfl, hb⟩
        rw [hd]
        obtain ⟨A, B, C, hall, hsz⟩ := boxes3 hb
        clear hb
        obtain ⟨b0, b1, b2, _⟩ := B.three
        go_wp2_with fail
        refine (implSF_calls _ _ _ _).mono ?_
        rintro e w2 ⟨rfl, hb⟩
        rw [hs]
        have hall2 := hid (bthen hall hb)
        obtain ⟨a0, a1, a2, a3, _⟩ := (A.later hb).four
        obtain ⟨c0, c1, c2, c3, c4, f0, f1, f2, f3, f4⟩ := (C.later hb).five
        clear hb hall A B C b0 b1 b2
        go_wp2
        exact bodyPost_ret (v := .agg #[.int .i64 7, .slice none 0 0, .int .i64 0, .int .i64 0, .int .i64 0]) (by simp [results, Tryd.results105, go_sem, c0, c1, c2, c3, c4]) rfl ⟨_, rfl, nil_ow _ _, below_set5 hall2.out (by omega) _ _ _ _ _⟩
      · have ht : inB 1 1024 tot = true := inB_yes h3 h4
        obtain ⟨n1, n2⟩ := next_ok (n := xs.length) (at' := at') (rst := rst) (rng := rng) hd ht
        have hv : inB lo (lo + sz - 1) (nV rst rng tot) = false := by
          cases hv : inB lo (lo + sz - 1) (nV rst rng tot)
          · rfl
          · exact absurd (tC_in (d := ⟨xs, at', rst, rng⟩) hd hs hfu hv).1 hf
        obtain ⟨e1, e2⟩ := tC_in (d := ⟨xs, at', rst, rng⟩) hd hs hfu hv
        rw [e1]
        clear hf e1 e2
        have HNx := hid (fun W => implNext_calls a xs.length cap at' rst rng tot W hlen)
        rw [n1, n2] at HNx
        have hq := of_notB hv
        clear hv n1 n2
        generalize nV rst rng tot = q at *
        by_cases hql : q < lo
        all_goals
          have hq2 : ¬ q < lo → lo + sz ≤ q := by omega
          go_enter Tryd.func105, Tryd.ntmps105
          go_wp2_with fail
          refine (implDF_calls _ _ _ _ _ _ _ hlen).mono ?_
          rintro e w1 ⟨rfl, hb⟩
          rw [hd]
          obtain ⟨A, B, C, hall, hsz⟩ := boxes3 hb
          clear hb
          obtain ⟨b0, b1, b2, _⟩ := B.three
          go_wp2_with fail
          refine (implSF_calls _ _ _ _).mono ?_
          rintro e w2 ⟨rfl, hb⟩
          rw [hs]
          have hall2 := bthen hall hb
          have A2 := A.later hb
          have B2 := B.later hb
          have C2 := C.later hb
          obtain ⟨a0, a1, a2, a3, _⟩ := A2.four
          obtain ⟨b0, b1, b2, _⟩ := B2.three
          clear hb hall A B C
          go_wp2_with fail
          refine (HNx.out _).mono ?_
          rintro e w3 ⟨rfl, hb⟩
          have hall3 := hid (bthen hall2 hb)
          obtain ⟨b0, b1, b2, _⟩ := (B2.later hb).three
          obtain ⟨c0, c1, c2, c3, c4, f0, f1, f2, f3, f4⟩ := (C2.later hb).five
          clear hb hall2 A2 B2 C2 a0 a1 a2 a3
          have hq3 : lo + sz ≤ q ∨ q < lo := by omega
          go_wp2
          exact bodyPost_ret (v := .agg #[.int .i64 8, .slice none 0 0, .int .i64 0, .int .i64 0, .int .i64 0]) (by simp [results, Tryd.results105, go_sem, c0, c1, c2, c3, c4]) rfl ⟨_, rfl, nil_ow _ _, below_set5 hall3.out (by omega) _ _ _ _ _⟩
    · obtain ⟨e1, e2⟩ := tC_slot (d := ⟨xs, at', rst, rng⟩) hd hs
      rw [e1]
      clear hf e1 e2
      have hs' : (sF lo sz tot != 0) = true := by simpa using hs
      go_enter Tryd.func105, Tryd.ntmps105
      go_wp2_with fail
      refine (implDF_calls _ _ _ _ _ _ _ hlen).mono ?_
      rintro e w1 ⟨rfl, hb⟩
      rw [hd]
      obtain ⟨A, B, C, hall, hsz⟩ := boxes3 hb
      clear hb
      obtain ⟨b0, b1, b2, _⟩ := B.three
      go_wp2_with fail
      refine (implSF_calls _ _ _ _).mono ?_
      rintro e w2 ⟨rfl, hb⟩
      have hall2 := hid (bthen hall hb)
      obtain ⟨c0, c1, c2, c3, c4, f0, f1, f2, f3, f4⟩ := (C.later hb).five
      clear hb hall A B C b0 b1 b2
      generalize sF lo sz tot = c at *
      go_wp2
      exact bodyPost_ret (v := .agg #[.int .i64 c, .slice none 0 0, .int .i64 0, .int .i64 0, .int .i64 0]) (by simp [results, Tryd.results105, go_sem, c0, c1, c2, c3, c4]) rfl ⟨_, rfl, nil_ow _ _, below_set5 hall2.out (by omega) _ _ _ _ _⟩
  · obtain ⟨e1, e2⟩ := tC_dec (d := ⟨xs, at', rst, rng⟩) (lo := lo) (sz := sz) (tot := tot) hd
    rw [e1]
    clear hf e1 e2
    dsimp only
    have hd' : (dF xs.length at' rst rng != 0) = true := by simpa using hd
    go_enter Tryd.func105, Tryd.ntmps105
    go_wp2_with fail
    refine (implDF_calls _ _ _ _ _ _ _ hlen).mono ?_
    rintro e w1 ⟨rfl, hb⟩
    obtain ⟨A, B, C, hall, hsz⟩ := boxes3 hb
    obtain ⟨c0, c1, c2, c3, c4, f0, f1, f2, f3, f4⟩ := C.five
    have hall2 := hid hall
    clear hb hall A B C
    generalize dF xs.length at' rst rng = c at *
    go_wp2
    exact bodyPost_ret (v := .agg #[.int .i64 c, .slice none 0 0, .int .i64 0, .int .i64 0, .int .i64 0]) (by simp [results, Tryd.results105, go_sem, c0, c1, c2, c3, c4]) rfl ⟨_, rfl, nil_ow _ _, below_set5 hall2.out (by omega) _ _ _ _ _⟩

set_option maxHeartbeats 4000000 in
theorem implTake_ok (a : Option Addr) (cap : Nat) (xs : List Int) (at' : Nat) (rst rng lo sz tot : Int) (w : World) (h : Sl .u8 w (.slice a xs.length cap) xs) (hx : BytesL xs) (hlen : xs.length ≤ 1048576)
    (hd : dF xs.length at' rst rng = 0) (hs : sF lo sz tot = 0) (hfu : at' ≤ 9996) (hv1 : lo ≤ nV rst rng tot) (hv2 : nV rst rng tot < lo + sz) :
    Calls Tryd.prog 105 #[.agg #[.slice a xs.length cap, .int .i64 at', .int .i64 rst, .int .i64 rng], .agg #[.int .i64 lo, .int .i64 sz, .int .i64 tot]] w (DR w 0 (tN ⟨xs, at', rst, rng⟩ lo sz tot)) := by
  obtain ⟨hn, ⟨ha1, ha2⟩, ⟨h1, h2⟩, h8, h9⟩ := of_dF hd
  obtain ⟨⟨h3, h4⟩, ⟨h5, h5'⟩, h6, h7⟩ := of_sF hs
  have H := hid h
  have ht : inB 1 1024 tot = true := inB_yes h3 h4
  obtain ⟨n1, n2⟩ := next_ok (n := xs.length) (at' := at') (rst := rst) (rng := rng) hd ht
  obtain ⟨r1, r2⟩ := slot_in rst rng lo sz tot h1 h2 h3 h4 (by omega) (by omega) hv1 hv2
  obtain ⟨m1, m2, m3⟩ := narI_bd rng lo sz tot h1 h2 h3 h4 h5 h6 (by omega)
  have HNx := hid (fun W => implNext_calls a xs.length cap at' rst rng tot W hlen)
  rw [n1, n2] at HNx
  have HPt := hid (fun W => partOf_calls rng lo sz tot W h1 h2 h3 h4 h5 h6 (by omega))
  have HU := hid (up_bd (narI rng lo sz tot) m1 (by omega))
  have HP := hid (pull_bd xs hx at' _ _ r1 r2)
  have hK := shI_le (narI rng lo sz tot)
  have HT : Hid (tN ⟨xs, at', rst, rng⟩ lo sz tot = ⟨xs, ((at' + shI (narI rng lo sz tot) : Nat) : Int), pull xs at' (rst - rng / tot * lo) (shI (narI rng lo sz tot)), up (narI rng lo sz tot) (shI (narI rng lo sz tot))⟩) := rfl
  rw [HT.out]
  clear HT n1 n2 h
  generalize narI rng lo sz tot = N at *
  generalize nV rst rng tot = q at *
  generalize rng / tot * lo = st at *
  have k3 : IntKind.i64.wrap (rst - st) = rst - st := wrapk_of (by omega) (by omega)
  refine calls_of_marks Tryd.func105 rfl ?_
  simp only [Tryd.ntmps105, List.size_toArray, List.length_cons, List.length_nil, Nat.reduceAdd, Nat.reduceSub, Array.replicate_succ, Array.replicate_zero, List.push_toArray, List.append_toArray, List.nil_append, List.cons_append]
  go_wp2_with fail
  refine (implDF_calls _ _ _ _ _ _ _ hlen).mono ?_
  rintro e w1 ⟨rfl, hb⟩
  rw [hd]
  obtain ⟨A, B, C, hall, hsz⟩ := boxes3 hb
  clear hb
  obtain ⟨b0, b1, b2, _⟩ := B.three
  go_wp2_with fail
  refine (implSF_calls _ _ _ _).mono ?_
  rintro e w2 ⟨rfl, hb⟩
  rw [hs]
  have hall2 := bthen hall hb
  have A2 := A.later hb
  have B2 := B.later hb
  have C2 := C.later hb
  obtain ⟨a0, a1, a2, a3, _⟩ := A2.four
  obtain ⟨b0, b1, b2, _⟩ := B2.three
  clear hb hall A B C
  have hfu' : (at' : Int) ≤ 9996 := by omega
  go_wp2_with fail
  refine (HNx.out _).mono ?_
  rintro e w3 ⟨rfl, hb⟩
  have hall3 := bthen hall2 hb
  have A3 := A2.later hb
  have B3 := B2.later hb
  have C3 := C2.later hb
  obtain ⟨a0, a1, a2, a3, _⟩ := A3.four
  obtain ⟨b0, b1, b2, _⟩ := B3.three
  clear hb hall2 A2 B2 C2
  go_wp2_with fail
  refine (HPt.out _).mono ?_
  rintro e w4 ⟨rfl, hb⟩
  have HA := hid (A3.later hb)
  have HC := hid (C3.later hb)
  have HW := hid (bthen hall3 hb)
  have hsz4 : w.heap.size + 3 ≤ w4.heap.size := by have e1 := (C3.later hb).lt; omega
  clear hb hall3 A3 B3 C3 hd hs HNx HPt b0 b1 b2 a0 a1 a2 a3 hsz
  obtain ⟨a0, a1, a2, a3, f0, f1, f2, f3⟩ := HA.out.four
  go_upto_region 13 with fail
  go_cut [] from 53 to 63 (fun wc => ∃ (ap : Option Addr) (cp : Nat), Hid (Blk wc w.heap.size #[.slice ap xs.length cp, .int .i64 at', .int .i64 (rst - st), .int .i64 N] 88) ∧ Hid (OwB w.heap.size wc (.slice ap xs.length cp) xs) ∧ Hid (Blk wc (w.heap.size + 1 + 1) #[.int .i64 0, .slice none 0 0, .int .i64 0, .int .i64 0, .int .i64 0] 90) ∧ Hid (Below w.heap.size w wc) ∧ Hid (w.heap.size + 3 ≤ wc.heap.size))
  case first =>
    refine wp_region_noPanic ?_
    refine wp_region_held_drew (S := fun _ => True) (by kernel_rfl) trivial (fun hHeld => ?_)
    (refine wpAnyH_take (i := 0) (v := ?_) rfl (by kernel_rfl) (by kernel_rfl) (by kernel_rfl) (fun _ _ _ h => h) (Or.inl ⟨by rfl, ?_⟩) hHeld ?_; rotate_left; (intro w hSw; skip; (go_simp <;> with_reducible rfl)); simp only [List.getElem_toArray, List.getElem_cons_zero, Act.put, List.setIfInBounds_toArray, List.set_cons_zero, List.set_cons_succ])
    (refine wpAnyH_take (i := 3) (v := ?_) rfl (by kernel_rfl) (by kernel_rfl) (by kernel_rfl) (fun _ _ _ h => h) (Or.inl ⟨by rfl, ?_⟩) hHeld ?_; rotate_left; (intro w hSw; skip; (go_simp <;> with_reducible rfl)); simp only [List.getElem_toArray, List.getElem_cons_zero, List.getElem_cons_succ, Act.put, List.setIfInBounds_toArray, List.set_cons_zero, List.set_cons_succ])
    (refine wpAnyH_take (i := 5) (v := ?_) rfl (by kernel_rfl) (by kernel_rfl) (by kernel_rfl) (fun _ _ _ h => h) (Or.inl ⟨by rfl, ?_⟩) hHeld ?_; rotate_left; (intro w hSw; skip; (go_simp <;> with_reducible rfl)); simp only [List.getElem_toArray, List.getElem_cons_zero, List.getElem_cons_succ, Act.put, List.setIfInBounds_toArray, List.set_cons_zero, List.set_cons_succ])
    (refine wpAnyH_take (i := 7) (v := ?_) rfl (by kernel_rfl) (by kernel_rfl) (by kernel_rfl) (fun _ _ _ h => h) (Or.inl ⟨by rfl, ?_⟩) hHeld ?_; rotate_left; (intro w hSw; skip; (go_simp <;> with_reducible rfl)); simp only [List.getElem_toArray, List.getElem_cons_zero, List.getElem_cons_succ, Act.put, List.setIfInBounds_toArray, List.set_cons_zero, List.set_cons_succ])
    (refine wpAnyH_take (i := 9) (v := ?_) rfl (by kernel_rfl) (by kernel_rfl) (by kernel_rfl) (fun _ _ _ h => h) (Or.inl ⟨by rfl, ?_⟩) hHeld ?_; rotate_left; (intro w hSw; skip; (go_simp <;> with_reducible rfl)); simp only [List.getElem_toArray, List.getElem_cons_zero, List.getElem_cons_succ, Act.put, List.setIfInBounds_toArray, List.set_cons_zero, List.set_cons_succ])
    refine wpAnyH_ready (rs := [1, 4, 6]) (by kernel_rfl) (by simp) ?_
    refine (AllReadyH.cons rfl (fun K hK => ?_) (AllReadyH.cons rfl (fun K hK => ?_) (AllReadyH.cons rfl (fun K hK => ?_) AllReadyH.nil)))
    · go_simp
      skip
      refine hK.out _ _ trivial (fun hHeld => ?_)
      clear hK K
      try simp only [List.getElem_toArray, List.getElem_cons_zero, List.getElem_cons_succ, Act.put, List.setIfInBounds_toArray, List.set_cons_zero, List.set_cons_succ]
      refine wpAnyH_ready (rs := [2, 4, 6]) (by kernel_rfl) (by simp) ?_
      refine (AllReadyH.cons rfl (fun K hK => ?_) (AllReadyH.cons rfl (fun K hK => ?_) (AllReadyH.cons rfl (fun K hK => ?_) AllReadyH.nil)))
      · go_simp
        (refine (clone_calls _ xs _ (Sl.later (w' := w4.drew) H.out (drewB HW.out)) hlen).mono ?_; rintro e W5 ⟨v', rfl, ho, hb5⟩; obtain ⟨ap, cp, rfl, _⟩ := ho.sl; have HO := hid ho; have HA5 := hid (Blk.laterD HA.out hb5); have HC5 := hid (Blk.laterD HC.out hb5); have HW5 := hid (bthen HW.out (undrewB hb5)); obtain ⟨d0, d1, d2, d3, e0, e1, e2, e3⟩ := HA5.out.four)
        refine hK.out _ _ trivial (fun hHeld => ?_)
        clear hK K
        try dsimp only
        refine wpAnyH_ready (rs := [4, 6]) (by kernel_rfl) (by simp) ?_
        refine (AllReadyH.cons rfl (fun K hK => ?_) (AllReadyH.cons rfl (fun K hK => ?_) AllReadyH.nil))
        · go_simp
          skip
          refine hK.out _ _ trivial (fun hHeld => ?_)
          clear hK K
          try simp only [List.getElem_toArray, List.getElem_cons_zero, List.getElem_cons_succ, Act.put, List.setIfInBounds_toArray, List.set_cons_zero, List.set_cons_succ]
          refine wpAnyH_ready (rs := [6]) (by kernel_rfl) (by simp) ?_
          refine (AllReadyH.cons rfl (fun K hK => ?_) AllReadyH.nil)
          go_simp
          skip
          refine hK.out _ _ trivial (fun hHeld => ?_)
          clear hK K
          try simp only [List.getElem_toArray, List.getElem_cons_zero, List.getElem_cons_succ, Act.put, List.setIfInBounds_toArray, List.set_cons_zero, List.set_cons_succ]
          (refine wpAnyH_take (i := 8) (v := ?_) rfl (by kernel_rfl) (by kernel_rfl) (by kernel_rfl) (fun _ _ _ h => h) (Or.inl ⟨by rfl, ?_⟩) hHeld ?_; rotate_left; (intro w hSw; skip; (go_simp <;> with_reducible rfl)); simp only [List.getElem_toArray, List.getElem_cons_zero, List.getElem_cons_succ, Act.put, List.setIfInBounds_toArray, List.set_cons_zero, List.set_cons_succ])
          (refine wpAnyH_take (i := 10) (v := ?_) rfl (by kernel_rfl) (by kernel_rfl) (by kernel_rfl) (fun _ _ _ h => h) (Or.inl ⟨by rfl, ?_⟩) hHeld ?_; rotate_left; (intro w hSw; skip; (go_simp <;> with_reducible rfl)); simp only [List.getElem_toArray, List.getElem_cons_zero, List.getElem_cons_succ, Act.put, List.setIfInBounds_toArray, List.set_cons_zero, List.set_cons_succ])
          refine wpAnyH_ready (rs := [11]) (by kernel_rfl) (by simp) ?_
          refine (AllReadyH.cons rfl (fun K hK => ?_) AllReadyH.nil)
          go_simp
          skip
          refine hK.out _ _ trivial (fun hHeld => ?_)
          clear hK K
          try simp only [List.getElem_toArray, List.getElem_cons_zero, List.getElem_cons_succ, Act.put, List.setIfInBounds_toArray, List.set_cons_zero, List.set_cons_succ]
          refine wpAnyH_done (by kernel_rfl) ?_ _
          refine NoPanic.normal ?_
          have HB6 := hid (Blk.set4 HA5.out (.slice ap xs.length cp) (.int .i64 at') (.int .i64 (rst - st)) (.int .i64 N))
          have HO6 := hid ((ow_apart HO.out HA5.out (by decide) (grown_set4 W5 w.heap.size (.slice ap xs.length cp) (.int .i64 at') (.int .i64 (rst - st)) (.int .i64 N))).mono (base' := w.heap.size) (by show w.heap.size ≤ w4.heap.size; omega))
          have HC6 := hid (Blk.other4 HC5.out (b' := w.heap.size) (by omega) (.slice ap xs.length cp) (.int .i64 at') (.int .i64 (rst - st)) (.int .i64 N))
          have HW6 := hid (below_cell (below_cell (below_cell (below_cell HW5.out (Nat.le_refl _) 0 (.slice ap xs.length cp)) (Nat.le_refl _) 1 (.int .i64 at')) (Nat.le_refl _) 2 (.int .i64 (rst - st))) (Nat.le_refl _) 3 (.int .i64 N))
          have hz6 := hid (show w.heap.size + 3 ≤ ((((W5.setCell ⟨w.heap.size, 0, none⟩ (.slice ap xs.length cp)).setCell ⟨w.heap.size, 1, none⟩ (.int .i64 at')).setCell ⟨w.heap.size, 2, none⟩ (.int .i64 (rst - st))).setCell ⟨w.heap.size, 3, none⟩ (.int .i64 N)).heap.size by have h1 := (undrewB hb5).size; have h2 := (grown_set4 W5 w.heap.size (.slice ap xs.length cp) (.int .i64 at') (.int .i64 (rst - st)) (.int .i64 N)).size; omega)
          clear HA5 HC5 HW5 HO ho hb5 d0 d1 d2 d3 e0 e1 e2 e3
          go_wp2_with fail
          go_meet
          case rel => exact ⟨ap, cp, HB6.out, HO6.out, HC6.out, HW6.out, hz6.out⟩
        · go_simp
          skip
          refine hK.out _ _ trivial (fun hHeld => ?_)
          clear hK K
          try simp only [List.getElem_toArray, List.getElem_cons_zero, List.getElem_cons_succ, Act.put, List.setIfInBounds_toArray, List.set_cons_zero, List.set_cons_succ]
          (refine wpAnyH_take (i := 8) (v := ?_) rfl (by kernel_rfl) (by kernel_rfl) (by kernel_rfl) (fun _ _ _ h => h) (Or.inl ⟨by rfl, ?_⟩) hHeld ?_; rotate_left; (intro w hSw; skip; (go_simp <;> with_reducible rfl)); simp only [List.getElem_toArray, List.getElem_cons_zero, List.getElem_cons_succ, Act.put, List.setIfInBounds_toArray, List.set_cons_zero, List.set_cons_succ])
          refine wpAnyH_ready (rs := [4]) (by kernel_rfl) (by simp) ?_
          refine (AllReadyH.cons rfl (fun K hK => ?_) AllReadyH.nil)
          go_simp
          skip
          refine hK.out _ _ trivial (fun hHeld => ?_)
          clear hK K
          try simp only [List.getElem_toArray, List.getElem_cons_zero, List.getElem_cons_succ, Act.put, List.setIfInBounds_toArray, List.set_cons_zero, List.set_cons_succ]
          (refine wpAnyH_take (i := 10) (v := ?_) rfl (by kernel_rfl) (by kernel_rfl) (by kernel_rfl) (fun _ _ _ h => h) (Or.inl ⟨by rfl, ?_⟩) hHeld ?_; rotate_left; (intro w hSw; skip; (go_simp <;> with_reducible rfl)); simp only [List.getElem_toArray, List.getElem_cons_zero, List.getElem_cons_succ, Act.put, List.setIfInBounds_toArray, List.set_cons_zero, List.set_cons_succ])
          refine wpAnyH_ready (rs := [11]) (by kernel_rfl) (by simp) ?_
          refine (AllReadyH.cons rfl (fun K hK => ?_) AllReadyH.nil)
          go_simp
          skip
          refine hK.out _ _ trivial (fun hHeld => ?_)
          clear hK K
          try simp only [List.getElem_toArray, List.getElem_cons_zero, List.getElem_cons_succ, Act.put, List.setIfInBounds_toArray, List.set_cons_zero, List.set_cons_succ]
          refine wpAnyH_done (by kernel_rfl) ?_ _
          refine NoPanic.normal ?_
          have HB6 := hid (Blk.set4 HA5.out (.slice ap xs.length cp) (.int .i64 at') (.int .i64 (rst - st)) (.int .i64 N))
          have HO6 := hid ((ow_apart HO.out HA5.out (by decide) (grown_set4 W5 w.heap.size (.slice ap xs.length cp) (.int .i64 at') (.int .i64 (rst - st)) (.int .i64 N))).mono (base' := w.heap.size) (by show w.heap.size ≤ w4.heap.size; omega))
          have HC6 := hid (Blk.other4 HC5.out (b' := w.heap.size) (by omega) (.slice ap xs.length cp) (.int .i64 at') (.int .i64 (rst - st)) (.int .i64 N))
          have HW6 := hid (below_cell (below_cell (below_cell (below_cell HW5.out (Nat.le_refl _) 0 (.slice ap xs.length cp)) (Nat.le_refl _) 1 (.int .i64 at')) (Nat.le_refl _) 2 (.int .i64 (rst - st))) (Nat.le_refl _) 3 (.int .i64 N))
          have hz6 := hid (show w.heap.size + 3 ≤ ((((W5.setCell ⟨w.heap.size, 0, none⟩ (.slice ap xs.length cp)).setCell ⟨w.heap.size, 1, none⟩ (.int .i64 at')).setCell ⟨w.heap.size, 2, none⟩ (.int .i64 (rst - st))).setCell ⟨w.heap.size, 3, none⟩ (.int .i64 N)).heap.size by have h1 := (undrewB hb5).size; have h2 := (grown_set4 W5 w.heap.size (.slice ap xs.length cp) (.int .i64 at') (.int .i64 (rst - st)) (.int .i64 N)).size; omega)
          clear HA5 HC5 HW5 HO ho hb5 d0 d1 d2 d3 e0 e1 e2 e3
          go_wp2_with fail
          go_meet
          case rel => exact ⟨ap, cp, HB6.out, HO6.out, HC6.out, HW6.out, hz6.out⟩
      · go_simp
        skip
        refine hK.out _ _ trivial (fun hHeld => ?_)
        clear hK K
        try simp only [List.getElem_toArray, List.getElem_cons_zero, List.getElem_cons_succ, Act.put, List.setIfInBounds_toArray, List.set_cons_zero, List.set_cons_succ]
        refine wpAnyH_ready (rs := [2, 6]) (by kernel_rfl) (by simp) ?_
        refine (AllReadyH.cons rfl (fun K hK => ?_) (AllReadyH.cons rfl (fun K hK => ?_) AllReadyH.nil))
        · go_simp
          (refine (clone_calls _ xs _ (Sl.later (w' := w4.drew) H.out (drewB HW.out)) hlen).mono ?_; rintro e W5 ⟨v', rfl, ho, hb5⟩; obtain ⟨ap, cp, rfl, _⟩ := ho.sl; have HO := hid ho; have HA5 := hid (Blk.laterD HA.out hb5); have HC5 := hid (Blk.laterD HC.out hb5); have HW5 := hid (bthen HW.out (undrewB hb5)); obtain ⟨d0, d1, d2, d3, e0, e1, e2, e3⟩ := HA5.out.four)
          refine hK.out _ _ trivial (fun hHeld => ?_)
          clear hK K
          try dsimp only
          refine wpAnyH_ready (rs := [6]) (by kernel_rfl) (by simp) ?_
          refine (AllReadyH.cons rfl (fun K hK => ?_) AllReadyH.nil)
          go_simp
          skip
          refine hK.out _ _ trivial (fun hHeld => ?_)
          clear hK K
          try simp only [List.getElem_toArray, List.getElem_cons_zero, List.getElem_cons_succ, Act.put, List.setIfInBounds_toArray, List.set_cons_zero, List.set_cons_succ]
          (refine wpAnyH_take (i := 8) (v := ?_) rfl (by kernel_rfl) (by kernel_rfl) (by kernel_rfl) (fun _ _ _ h => h) (Or.inl ⟨by rfl, ?_⟩) hHeld ?_; rotate_left; (intro w hSw; skip; (go_simp <;> with_reducible rfl)); simp only [List.getElem_toArray, List.getElem_cons_zero, List.getElem_cons_succ, Act.put, List.setIfInBounds_toArray, List.set_cons_zero, List.set_cons_succ])
          (refine wpAnyH_take (i := 10) (v := ?_) rfl (by kernel_rfl) (by kernel_rfl) (by kernel_rfl) (fun _ _ _ h => h) (Or.inl ⟨by rfl, ?_⟩) hHeld ?_; rotate_left; (intro w hSw; skip; (go_simp <;> with_reducible rfl)); simp only [List.getElem_toArray, List.getElem_cons_zero, List.getElem_cons_succ, Act.put, List.setIfInBounds_toArray, List.set_cons_zero, List.set_cons_succ])
          refine wpAnyH_ready (rs := [11]) (by kernel_rfl) (by simp) ?_
          refine (AllReadyH.cons rfl (fun K hK => ?_) AllReadyH.nil)
          go_simp
          skip
          refine hK.out _ _ trivial (fun hHeld => ?_)
          clear hK K
          try simp only [List.getElem_toArray, List.getElem_cons_zero, List.getElem_cons_succ, Act.put, List.setIfInBounds_toArray, List.set_cons_zero, List.set_cons_succ]
          refine wpAnyH_done (by kernel_rfl) ?_ _
          refine NoPanic.normal ?_
          have HB6 := hid (Blk.set4 HA5.out (.slice ap xs.length cp) (.int .i64 at') (.int .i64 (rst - st)) (.int .i64 N))
          have HO6 := hid ((ow_apart HO.out HA5.out (by decide) (grown_set4 W5 w.heap.size (.slice ap xs.length cp) (.int .i64 at') (.int .i64 (rst - st)) (.int .i64 N))).mono (base' := w.heap.size) (by show w.heap.size ≤ w4.heap.size; omega))
          have HC6 := hid (Blk.other4 HC5.out (b' := w.heap.size) (by omega) (.slice ap xs.length cp) (.int .i64 at') (.int .i64 (rst - st)) (.int .i64 N))
          have HW6 := hid (below_cell (below_cell (below_cell (below_cell HW5.out (Nat.le_refl _) 0 (.slice ap xs.length cp)) (Nat.le_refl _) 1 (.int .i64 at')) (Nat.le_refl _) 2 (.int .i64 (rst - st))) (Nat.le_refl _) 3 (.int .i64 N))
          have hz6 := hid (show w.heap.size + 3 ≤ ((((W5.setCell ⟨w.heap.size, 0, none⟩ (.slice ap xs.length cp)).setCell ⟨w.heap.size, 1, none⟩ (.int .i64 at')).setCell ⟨w.heap.size, 2, none⟩ (.int .i64 (rst - st))).setCell ⟨w.heap.size, 3, none⟩ (.int .i64 N)).heap.size by have h1 := (undrewB hb5).size; have h2 := (grown_set4 W5 w.heap.size (.slice ap xs.length cp) (.int .i64 at') (.int .i64 (rst - st)) (.int .i64 N)).size; omega)
          clear HA5 HC5 HW5 HO ho hb5 d0 d1 d2 d3 e0 e1 e2 e3
          go_wp2_with fail
          go_meet
          case rel => exact ⟨ap, cp, HB6.out, HO6.out, HC6.out, HW6.out, hz6.out⟩
        · go_simp
          skip
          refine hK.out _ _ trivial (fun hHeld => ?_)
          clear hK K
          try simp only [List.getElem_toArray, List.getElem_cons_zero, List.getElem_cons_succ, Act.put, List.setIfInBounds_toArray, List.set_cons_zero, List.set_cons_succ]
          (refine wpAnyH_take (i := 8) (v := ?_) rfl (by kernel_rfl) (by kernel_rfl) (by kernel_rfl) (fun _ _ _ h => h) (Or.inl ⟨by rfl, ?_⟩) hHeld ?_; rotate_left; (intro w hSw; skip; (go_simp <;> with_reducible rfl)); simp only [List.getElem_toArray, List.getElem_cons_zero, List.getElem_cons_succ, Act.put, List.setIfInBounds_toArray, List.set_cons_zero, List.set_cons_succ])
          refine wpAnyH_ready (rs := [2]) (by kernel_rfl) (by simp) ?_
          refine (AllReadyH.cons rfl (fun K hK => ?_) AllReadyH.nil)
          go_simp
          (refine (clone_calls _ xs _ (Sl.later (w' := w4.drew) H.out (drewB HW.out)) hlen).mono ?_; rintro e W5 ⟨v', rfl, ho, hb5⟩; obtain ⟨ap, cp, rfl, _⟩ := ho.sl; have HO := hid ho; have HA5 := hid (Blk.laterD HA.out hb5); have HC5 := hid (Blk.laterD HC.out hb5); have HW5 := hid (bthen HW.out (undrewB hb5)); obtain ⟨d0, d1, d2, d3, e0, e1, e2, e3⟩ := HA5.out.four)
          refine hK.out _ _ trivial (fun hHeld => ?_)
          clear hK K
          try dsimp only
          (refine wpAnyH_take (i := 10) (v := ?_) rfl (by kernel_rfl) (by kernel_rfl) (by kernel_rfl) (fun _ _ _ h => h) (Or.inl ⟨by rfl, ?_⟩) hHeld ?_; rotate_left; (intro w hSw; skip; (go_simp <;> with_reducible rfl)); simp only [List.getElem_toArray, List.getElem_cons_zero, List.getElem_cons_succ, Act.put, List.setIfInBounds_toArray, List.set_cons_zero, List.set_cons_succ])
          refine wpAnyH_ready (rs := [11]) (by kernel_rfl) (by simp) ?_
          refine (AllReadyH.cons rfl (fun K hK => ?_) AllReadyH.nil)
          go_simp
          skip
          refine hK.out _ _ trivial (fun hHeld => ?_)
          clear hK K
          try simp only [List.getElem_toArray, List.getElem_cons_zero, List.getElem_cons_succ, Act.put, List.setIfInBounds_toArray, List.set_cons_zero, List.set_cons_succ]
          refine wpAnyH_done (by kernel_rfl) ?_ _
          refine NoPanic.normal ?_
          have HB6 := hid (Blk.set4 HA5.out (.slice ap xs.length cp) (.int .i64 at') (.int .i64 (rst - st)) (.int .i64 N))
          have HO6 := hid ((ow_apart HO.out HA5.out (by decide) (grown_set4 W5 w.heap.size (.slice ap xs.length cp) (.int .i64 at') (.int .i64 (rst - st)) (.int .i64 N))).mono (base' := w.heap.size) (by show w.heap.size ≤ w4.heap.size; omega))
          have HC6 := hid (Blk.other4 HC5.out (b' := w.heap.size) (by omega) (.slice ap xs.length cp) (.int .i64 at') (.int .i64 (rst - st)) (.int .i64 N))
          have HW6 := hid (below_cell (below_cell (below_cell (below_cell HW5.out (Nat.le_refl _) 0 (.slice ap xs.length cp)) (Nat.le_refl _) 1 (.int .i64 at')) (Nat.le_refl _) 2 (.int .i64 (rst - st))) (Nat.le_refl _) 3 (.int .i64 N))
          have hz6 := hid (show w.heap.size + 3 ≤ ((((W5.setCell ⟨w.heap.size, 0, none⟩ (.slice ap xs.length cp)).setCell ⟨w.heap.size, 1, none⟩ (.int .i64 at')).setCell ⟨w.heap.size, 2, none⟩ (.int .i64 (rst - st))).setCell ⟨w.heap.size, 3, none⟩ (.int .i64 N)).heap.size by have h1 := (undrewB hb5).size; have h2 := (grown_set4 W5 w.heap.size (.slice ap xs.length cp) (.int .i64 at') (.int .i64 (rst - st)) (.int .i64 N)).size; omega)
          clear HA5 HC5 HW5 HO ho hb5 d0 d1 d2 d3 e0 e1 e2 e3
          go_wp2_with fail
          go_meet
          case rel => exact ⟨ap, cp, HB6.out, HO6.out, HC6.out, HW6.out, hz6.out⟩
      · go_simp
        skip
        refine hK.out _ _ trivial (fun hHeld => ?_)
        clear hK K
        try simp only [List.getElem_toArray, List.getElem_cons_zero, List.getElem_cons_succ, Act.put, List.setIfInBounds_toArray, List.set_cons_zero, List.set_cons_succ]
        (refine wpAnyH_take (i := 8) (v := ?_) rfl (by kernel_rfl) (by kernel_rfl) (by kernel_rfl) (fun _ _ _ h => h) (Or.inl ⟨by rfl, ?_⟩) hHeld ?_; rotate_left; (intro w hSw; skip; (go_simp <;> with_reducible rfl)); simp only [List.getElem_toArray, List.getElem_cons_zero, List.getElem_cons_succ, Act.put, List.setIfInBounds_toArray, List.set_cons_zero, List.set_cons_succ])
        refine wpAnyH_ready (rs := [2, 4]) (by kernel_rfl) (by simp) ?_
        refine (AllReadyH.cons rfl (fun K hK => ?_) (AllReadyH.cons rfl (fun K hK => ?_) AllReadyH.nil))
        · go_simp
          (refine (clone_calls _ xs _ (Sl.later (w' := w4.drew) H.out (drewB HW.out)) hlen).mono ?_; rintro e W5 ⟨v', rfl, ho, hb5⟩; obtain ⟨ap, cp, rfl, _⟩ := ho.sl; have HO := hid ho; have HA5 := hid (Blk.laterD HA.out hb5); have HC5 := hid (Blk.laterD HC.out hb5); have HW5 := hid (bthen HW.out (undrewB hb5)); obtain ⟨d0, d1, d2, d3, e0, e1, e2, e3⟩ := HA5.out.four)
          refine hK.out _ _ trivial (fun hHeld => ?_)
          clear hK K
          try dsimp only
          refine wpAnyH_ready (rs := [4]) (by kernel_rfl) (by simp) ?_
          refine (AllReadyH.cons rfl (fun K hK => ?_) AllReadyH.nil)
          go_simp
          skip
          refine hK.out _ _ trivial (fun hHeld => ?_)
          clear hK K
          try simp only [List.getElem_toArray, List.getElem_cons_zero, List.getElem_cons_succ, Act.put, List.setIfInBounds_toArray, List.set_cons_zero, List.set_cons_succ]
          (refine wpAnyH_take (i := 10) (v := ?_) rfl (by kernel_rfl) (by kernel_rfl) (by kernel_rfl) (fun _ _ _ h => h) (Or.inl ⟨by rfl, ?_⟩) hHeld ?_; rotate_left; (intro w hSw; skip; (go_simp <;> with_reducible rfl)); simp only [List.getElem_toArray, List.getElem_cons_zero, List.getElem_cons_succ, Act.put, List.setIfInBounds_toArray, List.set_cons_zero, List.set_cons_succ])
          refine wpAnyH_ready (rs := [11]) (by kernel_rfl) (by simp) ?_
          refine (AllReadyH.cons rfl (fun K hK => ?_) AllReadyH.nil)
          go_simp
          skip
          refine hK.out _ _ trivial (fun hHeld => ?_)
          clear hK K
          try simp only [List.getElem_toArray, List.getElem_cons_zero, List.getElem_cons_succ, Act.put, List.setIfInBounds_toArray, List.set_cons_zero, List.set_cons_succ]
          refine wpAnyH_done (by kernel_rfl) ?_ _
          refine NoPanic.normal ?_
          have HB6 := hid (Blk.set4 HA5.out (.slice ap xs.length cp) (.int .i64 at') (.int .i64 (rst - st)) (.int .i64 N))
          have HO6 := hid ((ow_apart HO.out HA5.out (by decide) (grown_set4 W5 w.heap.size (.slice ap xs.length cp) (.int .i64 at') (.int .i64 (rst - st)) (.int .i64 N))).mono (base' := w.heap.size) (by show w.heap.size ≤ w4.heap.size; omega))
          have HC6 := hid (Blk.other4 HC5.out (b' := w.heap.size) (by omega) (.slice ap xs.length cp) (.int .i64 at') (.int .i64 (rst - st)) (.int .i64 N))
          have HW6 := hid (below_cell (below_cell (below_cell (below_cell HW5.out (Nat.le_refl _) 0 (.slice ap xs.length cp)) (Nat.le_refl _) 1 (.int .i64 at')) (Nat.le_refl _) 2 (.int .i64 (rst - st))) (Nat.le_refl _) 3 (.int .i64 N))
          have hz6 := hid (show w.heap.size + 3 ≤ ((((W5.setCell ⟨w.heap.size, 0, none⟩ (.slice ap xs.length cp)).setCell ⟨w.heap.size, 1, none⟩ (.int .i64 at')).setCell ⟨w.heap.size, 2, none⟩ (.int .i64 (rst - st))).setCell ⟨w.heap.size, 3, none⟩ (.int .i64 N)).heap.size by have h1 := (undrewB hb5).size; have h2 := (grown_set4 W5 w.heap.size (.slice ap xs.length cp) (.int .i64 at') (.int .i64 (rst - st)) (.int .i64 N)).size; omega)
          clear HA5 HC5 HW5 HO ho hb5 d0 d1 d2 d3 e0 e1 e2 e3
          go_wp2_with fail
          go_meet
          case rel => exact ⟨ap, cp, HB6.out, HO6.out, HC6.out, HW6.out, hz6.out⟩
        · go_simp
          skip
          refine hK.out _ _ trivial (fun hHeld => ?_)
          clear hK K
          try simp only [List.getElem_toArray, List.getElem_cons_zero, List.getElem_cons_succ, Act.put, List.setIfInBounds_toArray, List.set_cons_zero, List.set_cons_succ]
          refine wpAnyH_ready (rs := [2]) (by kernel_rfl) (by simp) ?_
          refine (AllReadyH.cons rfl (fun K hK => ?_) AllReadyH.nil)
          go_simp
          (refine (clone_calls _ xs _ (Sl.later (w' := w4.drew) H.out (drewB HW.out)) hlen).mono ?_; rintro e W5 ⟨v', rfl, ho, hb5⟩; obtain ⟨ap, cp, rfl, _⟩ := ho.sl; have HO := hid ho; have HA5 := hid (Blk.laterD HA.out hb5); have HC5 := hid (Blk.laterD HC.out hb5); have HW5 := hid (bthen HW.out (undrewB hb5)); obtain ⟨d0, d1, d2, d3, e0, e1, e2, e3⟩ := HA5.out.four)
          refine hK.out _ _ trivial (fun hHeld => ?_)
          clear hK K
          try dsimp only
          (refine wpAnyH_take (i := 10) (v := ?_) rfl (by kernel_rfl) (by kernel_rfl) (by kernel_rfl) (fun _ _ _ h => h) (Or.inl ⟨by rfl, ?_⟩) hHeld ?_; rotate_left; (intro w hSw; skip; (go_simp <;> with_reducible rfl)); simp only [List.getElem_toArray, List.getElem_cons_zero, List.getElem_cons_succ, Act.put, List.setIfInBounds_toArray, List.set_cons_zero, List.set_cons_succ])
          refine wpAnyH_ready (rs := [11]) (by kernel_rfl) (by simp) ?_
          refine (AllReadyH.cons rfl (fun K hK => ?_) AllReadyH.nil)
          go_simp
          skip
          refine hK.out _ _ trivial (fun hHeld => ?_)
          clear hK K
          try simp only [List.getElem_toArray, List.getElem_cons_zero, List.getElem_cons_succ, Act.put, List.setIfInBounds_toArray, List.set_cons_zero, List.set_cons_succ]
          refine wpAnyH_done (by kernel_rfl) ?_ _
          refine NoPanic.normal ?_
          have HB6 := hid (Blk.set4 HA5.out (.slice ap xs.length cp) (.int .i64 at') (.int .i64 (rst - st)) (.int .i64 N))
          have HO6 := hid ((ow_apart HO.out HA5.out (by decide) (grown_set4 W5 w.heap.size (.slice ap xs.length cp) (.int .i64 at') (.int .i64 (rst - st)) (.int .i64 N))).mono (base' := w.heap.size) (by show w.heap.size ≤ w4.heap.size; omega))
          have HC6 := hid (Blk.other4 HC5.out (b' := w.heap.size) (by omega) (.slice ap xs.length cp) (.int .i64 at') (.int .i64 (rst - st)) (.int .i64 N))
          have HW6 := hid (below_cell (below_cell (below_cell (below_cell HW5.out (Nat.le_refl _) 0 (.slice ap xs.length cp)) (Nat.le_refl _) 1 (.int .i64 at')) (Nat.le_refl _) 2 (.int .i64 (rst - st))) (Nat.le_refl _) 3 (.int .i64 N))
          have hz6 := hid (show w.heap.size + 3 ≤ ((((W5.setCell ⟨w.heap.size, 0, none⟩ (.slice ap xs.length cp)).setCell ⟨w.heap.size, 1, none⟩ (.int .i64 at')).setCell ⟨w.heap.size, 2, none⟩ (.int .i64 (rst - st))).setCell ⟨w.heap.size, 3, none⟩ (.int .i64 N)).heap.size by have h1 := (undrewB hb5).size; have h2 := (grown_set4 W5 w.heap.size (.slice ap xs.length cp) (.int .i64 at') (.int .i64 (rst - st)) (.int .i64 N)).size; omega)
          clear HA5 HC5 HW5 HO ho hb5 d0 d1 d2 d3 e0 e1 e2 e3
          go_wp2_with fail
          go_meet
          case rel => exact ⟨ap, cp, HB6.out, HO6.out, HC6.out, HW6.out, hz6.out⟩
    · go_simp
      skip
      refine hK.out _ _ trivial (fun hHeld => ?_)
      clear hK K
      try simp only [List.getElem_toArray, List.getElem_cons_zero, List.getElem_cons_succ, Act.put, List.setIfInBounds_toArray, List.set_cons_zero, List.set_cons_succ]
      refine wpAnyH_ready (rs := [1, 6]) (by kernel_rfl) (by simp) ?_
      refine (AllReadyH.cons rfl (fun K hK => ?_) (AllReadyH.cons rfl (fun K hK => ?_) AllReadyH.nil))
      · go_simp
        skip
        refine hK.out _ _ trivial (fun hHeld => ?_)
        clear hK K
        try simp only [List.getElem_toArray, List.getElem_cons_zero, List.getElem_cons_succ, Act.put, List.setIfInBounds_toArray, List.set_cons_zero, List.set_cons_succ]
        refine wpAnyH_ready (rs := [2, 6]) (by kernel_rfl) (by simp) ?_
        refine (AllReadyH.cons rfl (fun K hK => ?_) (AllReadyH.cons rfl (fun K hK => ?_) AllReadyH.nil))
        · go_simp
          (refine (clone_calls _ xs _ (Sl.later (w' := w4.drew) H.out (drewB HW.out)) hlen).mono ?_; rintro e W5 ⟨v', rfl, ho, hb5⟩; obtain ⟨ap, cp, rfl, _⟩ := ho.sl; have HO := hid ho; have HA5 := hid (Blk.laterD HA.out hb5); have HC5 := hid (Blk.laterD HC.out hb5); have HW5 := hid (bthen HW.out (undrewB hb5)); obtain ⟨d0, d1, d2, d3, e0, e1, e2, e3⟩ := HA5.out.four)
          refine hK.out _ _ trivial (fun hHeld => ?_)
          clear hK K
          try dsimp only
          refine wpAnyH_ready (rs := [6]) (by kernel_rfl) (by simp) ?_
          refine (AllReadyH.cons rfl (fun K hK => ?_) AllReadyH.nil)
          go_simp
          skip
          refine hK.out _ _ trivial (fun hHeld => ?_)
          clear hK K
          try simp only [List.getElem_toArray, List.getElem_cons_zero, List.getElem_cons_succ, Act.put, List.setIfInBounds_toArray, List.set_cons_zero, List.set_cons_succ]
          (refine wpAnyH_take (i := 8) (v := ?_) rfl (by kernel_rfl) (by kernel_rfl) (by kernel_rfl) (fun _ _ _ h => h) (Or.inl ⟨by rfl, ?_⟩) hHeld ?_; rotate_left; (intro w hSw; skip; (go_simp <;> with_reducible rfl)); simp only [List.getElem_toArray, List.getElem_cons_zero, List.getElem_cons_succ, Act.put, List.setIfInBounds_toArray, List.set_cons_zero, List.set_cons_succ])
          (refine wpAnyH_take (i := 10) (v := ?_) rfl (by kernel_rfl) (by kernel_rfl) (by kernel_rfl) (fun _ _ _ h => h) (Or.inl ⟨by rfl, ?_⟩) hHeld ?_; rotate_left; (intro w hSw; skip; (go_simp <;> with_reducible rfl)); simp only [List.getElem_toArray, List.getElem_cons_zero, List.getElem_cons_succ, Act.put, List.setIfInBounds_toArray, List.set_cons_zero, List.set_cons_succ])
          refine wpAnyH_ready (rs := [11]) (by kernel_rfl) (by simp) ?_
          refine (AllReadyH.cons rfl (fun K hK => ?_) AllReadyH.nil)
          go_simp
          skip
          refine hK.out _ _ trivial (fun hHeld => ?_)
          clear hK K
          try simp only [List.getElem_toArray, List.getElem_cons_zero, List.getElem_cons_succ, Act.put, List.setIfInBounds_toArray, List.set_cons_zero, List.set_cons_succ]
          refine wpAnyH_done (by kernel_rfl) ?_ _
          refine NoPanic.normal ?_
          have HB6 := hid (Blk.set4 HA5.out (.slice ap xs.length cp) (.int .i64 at') (.int .i64 (rst - st)) (.int .i64 N))
          have HO6 := hid ((ow_apart HO.out HA5.out (by decide) (grown_set4 W5 w.heap.size (.slice ap xs.length cp) (.int .i64 at') (.int .i64 (rst - st)) (.int .i64 N))).mono (base' := w.heap.size) (by show w.heap.size ≤ w4.heap.size; omega))
          have HC6 := hid (Blk.other4 HC5.out (b' := w.heap.size) (by omega) (.slice ap xs.length cp) (.int .i64 at') (.int .i64 (rst - st)) (.int .i64 N))
          have HW6 := hid (below_cell (below_cell (below_cell (below_cell HW5.out (Nat.le_refl _) 0 (.slice ap xs.length cp)) (Nat.le_refl _) 1 (.int .i64 at')) (Nat.le_refl _) 2 (.int .i64 (rst - st))) (Nat.le_refl _) 3 (.int .i64 N))
          have hz6 := hid (show w.heap.size + 3 ≤ ((((W5.setCell ⟨w.heap.size, 0, none⟩ (.slice ap xs.length cp)).setCell ⟨w.heap.size, 1, none⟩ (.int .i64 at')).setCell ⟨w.heap.size, 2, none⟩ (.int .i64 (rst - st))).setCell ⟨w.heap.size, 3, none⟩ (.int .i64 N)).heap.size by have h1 := (undrewB hb5).size; have h2 := (grown_set4 W5 w.heap.size (.slice ap xs.length cp) (.int .i64 at') (.int .i64 (rst - st)) (.int .i64 N)).size; omega)
          clear HA5 HC5 HW5 HO ho hb5 d0 d1 d2 d3 e0 e1 e2 e3
          go_wp2_with fail
          go_meet
          case rel => exact ⟨ap, cp, HB6.out, HO6.out, HC6.out, HW6.out, hz6.out⟩
        · go_simp
          skip
          refine hK.out _ _ trivial (fun hHeld => ?_)
          clear hK K
          try simp only [List.getElem_toArray, List.getElem_cons_zero, List.getElem_cons_succ, Act.put, List.setIfInBounds_toArray, List.set_cons_zero, List.set_cons_succ]
          (refine wpAnyH_take (i := 8) (v := ?_) rfl (by kernel_rfl) (by kernel_rfl) (by kernel_rfl) (fun _ _ _ h => h) (Or.inl ⟨by rfl, ?_⟩) hHeld ?_; rotate_left; (intro w hSw; skip; (go_simp <;> with_reducible rfl)); simp only [List.getElem_toArray, List.getElem_cons_zero, List.getElem_cons_succ, Act.put, List.setIfInBounds_toArray, List.set_cons_zero, List.set_cons_succ])
          refine wpAnyH_ready (rs := [2]) (by kernel_rfl) (by simp) ?_
          refine (AllReadyH.cons rfl (fun K hK => ?_) AllReadyH.nil)
          go_simp
          (refine (clone_calls _ xs _ (Sl.later (w' := w4.drew) H.out (drewB HW.out)) hlen).mono ?_; rintro e W5 ⟨v', rfl, ho, hb5⟩; obtain ⟨ap, cp, rfl, _⟩ := ho.sl; have HO := hid ho; have HA5 := hid (Blk.laterD HA.out hb5); have HC5 := hid (Blk.laterD HC.out hb5); have HW5 := hid (bthen HW.out (undrewB hb5)); obtain ⟨d0, d1, d2, d3, e0, e1, e2, e3⟩ := HA5.out.four)
          refine hK.out _ _ trivial (fun hHeld => ?_)
          clear hK K
          try dsimp only
          (refine wpAnyH_take (i := 10) (v := ?_) rfl (by kernel_rfl) (by kernel_rfl) (by kernel_rfl) (fun _ _ _ h => h) (Or.inl ⟨by rfl, ?_⟩) hHeld ?_; rotate_left; (intro w hSw; skip; (go_simp <;> with_reducible rfl)); simp only [List.getElem_toArray, List.getElem_cons_zero, List.getElem_cons_succ, Act.put, List.setIfInBounds_toArray, List.set_cons_zero, List.set_cons_succ])
          refine wpAnyH_ready (rs := [11]) (by kernel_rfl) (by simp) ?_
          refine (AllReadyH.cons rfl (fun K hK => ?_) AllReadyH.nil)
          go_simp
          skip
          refine hK.out _ _ trivial (fun hHeld => ?_)
          clear hK K
          try simp only [List.getElem_toArray, List.getElem_cons_zero, List.getElem_cons_succ, Act.put, List.setIfInBounds_toArray, List.set_cons_zero, List.set_cons_succ]
          refine wpAnyH_done (by kernel_rfl) ?_ _
          refine NoPanic.normal ?_
          have HB6 := hid (Blk.set4 HA5.out (.slice ap xs.length cp) (.int .i64 at') (.int .i64 (rst - st)) (.int .i64 N))
          have HO6 := hid ((ow_apart HO.out HA5.out (by decide) (grown_set4 W5 w.heap.size (.slice ap xs.length cp) (.int .i64 at') (.int .i64 (rst - st)) (.int .i64 N))).mono (base' := w.heap.size) (by show w.heap.size ≤ w4.heap.size; omega))
          have HC6 := hid (Blk.other4 HC5.out (b' := w.heap.size) (by omega) (.slice ap xs.length cp) (.int .i64 at') (.int .i64 (rst - st)) (.int .i64 N))
          have HW6 := hid (below_cell (below_cell (below_cell (below_cell HW5.out (Nat.le_refl _) 0 (.slice ap xs.length cp)) (Nat.le_refl _) 1 (.int .i64 at')) (Nat.le_refl _) 2 (.int .i64 (rst - st))) (Nat.le_refl _) 3 (.int .i64 N))
          have hz6 := hid (show w.heap.size + 3 ≤ ((((W5.setCell ⟨w.heap.size, 0, none⟩ (.slice ap xs.length cp)).setCell ⟨w.heap.size, 1, none⟩ (.int .i64 at')).setCell ⟨w.heap.size, 2, none⟩ (.int .i64 (rst - st))).setCell ⟨w.heap.size, 3, none⟩ (.int .i64 N)).heap.size by have h1 := (undrewB hb5).size; have h2 := (grown_set4 W5 w.heap.size (.slice ap xs.length cp) (.int .i64 at') (.int .i64 (rst - st)) (.int .i64 N)).size; omega)
          clear HA5 HC5 HW5 HO ho hb5 d0 d1 d2 d3 e0 e1 e2 e3
          go_wp2_with fail
          go_meet
          case rel => exact ⟨ap, cp, HB6.out, HO6.out, HC6.out, HW6.out, hz6.out⟩
      · go_simp
        skip
        refine hK.out _ _ trivial (fun hHeld => ?_)
        clear hK K
        try simp only [List.getElem_toArray, List.getElem_cons_zero, List.getElem_cons_succ, Act.put, List.setIfInBounds_toArray, List.set_cons_zero, List.set_cons_succ]
        (refine wpAnyH_take (i := 8) (v := ?_) rfl (by kernel_rfl) (by kernel_rfl) (by kernel_rfl) (fun _ _ _ h => h) (Or.inl ⟨by rfl, ?_⟩) hHeld ?_; rotate_left; (intro w hSw; skip; (go_simp <;> with_reducible rfl)); simp only [List.getElem_toArray, List.getElem_cons_zero, List.getElem_cons_succ, Act.put, List.setIfInBounds_toArray, List.set_cons_zero, List.set_cons_succ])
        refine wpAnyH_ready (rs := [1]) (by kernel_rfl) (by simp) ?_
        refine (AllReadyH.cons rfl (fun K hK => ?_) AllReadyH.nil)
        go_simp
        skip
        refine hK.out _ _ trivial (fun hHeld => ?_)
        clear hK K
        try simp only [List.getElem_toArray, List.getElem_cons_zero, List.getElem_cons_succ, Act.put, List.setIfInBounds_toArray, List.set_cons_zero, List.set_cons_succ]
        refine wpAnyH_ready (rs := [2]) (by kernel_rfl) (by simp) ?_
        refine (AllReadyH.cons rfl (fun K hK => ?_) AllReadyH.nil)
        go_simp
        (refine (clone_calls _ xs _ (Sl.later (w' := w4.drew) H.out (drewB HW.out)) hlen).mono ?_; rintro e W5 ⟨v', rfl, ho, hb5⟩; obtain ⟨ap, cp, rfl, _⟩ := ho.sl; have HO := hid ho; have HA5 := hid (Blk.laterD HA.out hb5); have HC5 := hid (Blk.laterD HC.out hb5); have HW5 := hid (bthen HW.out (undrewB hb5)); obtain ⟨d0, d1, d2, d3, e0, e1, e2, e3⟩ := HA5.out.four)
        refine hK.out _ _ trivial (fun hHeld => ?_)
        clear hK K
        try dsimp only
        (refine wpAnyH_take (i := 10) (v := ?_) rfl (by kernel_rfl) (by kernel_rfl) (by kernel_rfl) (fun _ _ _ h => h) (Or.inl ⟨by rfl, ?_⟩) hHeld ?_; rotate_left; (intro w hSw; skip; (go_simp <;> with_reducible rfl)); simp only [List.getElem_toArray, List.getElem_cons_zero, List.getElem_cons_succ, Act.put, List.setIfInBounds_toArray, List.set_cons_zero, List.set_cons_succ])
        refine wpAnyH_ready (rs := [11]) (by kernel_rfl) (by simp) ?_
        refine (AllReadyH.cons rfl (fun K hK => ?_) AllReadyH.nil)
        go_simp
        skip
        refine hK.out _ _ trivial (fun hHeld => ?_)
        clear hK K
        try simp only [List.getElem_toArray, List.getElem_cons_zero, List.getElem_cons_succ, Act.put, List.setIfInBounds_toArray, List.set_cons_zero, List.set_cons_succ]
        refine wpAnyH_done (by kernel_rfl) ?_ _
        refine NoPanic.normal ?_
        have HB6 := hid (Blk.set4 HA5.out (.slice ap xs.length cp) (.int .i64 at') (.int .i64 (rst - st)) (.int .i64 N))
        have HO6 := hid ((ow_apart HO.out HA5.out (by decide) (grown_set4 W5 w.heap.size (.slice ap xs.length cp) (.int .i64 at') (.int .i64 (rst - st)) (.int .i64 N))).mono (base' := w.heap.size) (by show w.heap.size ≤ w4.heap.size; omega))
        have HC6 := hid (Blk.other4 HC5.out (b' := w.heap.size) (by omega) (.slice ap xs.length cp) (.int .i64 at') (.int .i64 (rst - st)) (.int .i64 N))
        have HW6 := hid (below_cell (below_cell (below_cell (below_cell HW5.out (Nat.le_refl _) 0 (.slice ap xs.length cp)) (Nat.le_refl _) 1 (.int .i64 at')) (Nat.le_refl _) 2 (.int .i64 (rst - st))) (Nat.le_refl _) 3 (.int .i64 N))
        have hz6 := hid (show w.heap.size + 3 ≤ ((((W5.setCell ⟨w.heap.size, 0, none⟩ (.slice ap xs.length cp)).setCell ⟨w.heap.size, 1, none⟩ (.int .i64 at')).setCell ⟨w.heap.size, 2, none⟩ (.int .i64 (rst - st))).setCell ⟨w.heap.size, 3, none⟩ (.int .i64 N)).heap.size by have h1 := (undrewB hb5).size; have h2 := (grown_set4 W5 w.heap.size (.slice ap xs.length cp) (.int .i64 at') (.int .i64 (rst - st)) (.int .i64 N)).size; omega)
        clear HA5 HC5 HW5 HO ho hb5 d0 d1 d2 d3 e0 e1 e2 e3
        go_wp2_with fail
        go_meet
        case rel => exact ⟨ap, cp, HB6.out, HO6.out, HC6.out, HW6.out, hz6.out⟩
    · go_simp
      skip
      refine hK.out _ _ trivial (fun hHeld => ?_)
      clear hK K
      try simp only [List.getElem_toArray, List.getElem_cons_zero, List.getElem_cons_succ, Act.put, List.setIfInBounds_toArray, List.set_cons_zero, List.set_cons_succ]
      (refine wpAnyH_take (i := 8) (v := ?_) rfl (by kernel_rfl) (by kernel_rfl) (by kernel_rfl) (fun _ _ _ h => h) (Or.inl ⟨by rfl, ?_⟩) hHeld ?_; rotate_left; (intro w hSw; skip; (go_simp <;> with_reducible rfl)); simp only [List.getElem_toArray, List.getElem_cons_zero, List.getElem_cons_succ, Act.put, List.setIfInBounds_toArray, List.set_cons_zero, List.set_cons_succ])
      refine wpAnyH_ready (rs := [1, 4]) (by kernel_rfl) (by simp) ?_
      refine (AllReadyH.cons rfl (fun K hK => ?_) (AllReadyH.cons rfl (fun K hK => ?_) AllReadyH.nil))
      · go_simp
        skip
        refine hK.out _ _ trivial (fun hHeld => ?_)
        clear hK K
        try simp only [List.getElem_toArray, List.getElem_cons_zero, List.getElem_cons_succ, Act.put, List.setIfInBounds_toArray, List.set_cons_zero, List.set_cons_succ]
        refine wpAnyH_ready (rs := [2, 4]) (by kernel_rfl) (by simp) ?_
        refine (AllReadyH.cons rfl (fun K hK => ?_) (AllReadyH.cons rfl (fun K hK => ?_) AllReadyH.nil))
        · go_simp
          (refine (clone_calls _ xs _ (Sl.later (w' := w4.drew) H.out (drewB HW.out)) hlen).mono ?_; rintro e W5 ⟨v', rfl, ho, hb5⟩; obtain ⟨ap, cp, rfl, _⟩ := ho.sl; have HO := hid ho; have HA5 := hid (Blk.laterD HA.out hb5); have HC5 := hid (Blk.laterD HC.out hb5); have HW5 := hid (bthen HW.out (undrewB hb5)); obtain ⟨d0, d1, d2, d3, e0, e1, e2, e3⟩ := HA5.out.four)
          refine hK.out _ _ trivial (fun hHeld => ?_)
          clear hK K
          try dsimp only
          refine wpAnyH_ready (rs := [4]) (by kernel_rfl) (by simp) ?_
          refine (AllReadyH.cons rfl (fun K hK => ?_) AllReadyH.nil)
          go_simp
          skip
          refine hK.out _ _ trivial (fun hHeld => ?_)
          clear hK K
          try simp only [List.getElem_toArray, List.getElem_cons_zero, List.getElem_cons_succ, Act.put, List.setIfInBounds_toArray, List.set_cons_zero, List.set_cons_succ]
          (refine wpAnyH_take (i := 10) (v := ?_) rfl (by kernel_rfl) (by kernel_rfl) (by kernel_rfl) (fun _ _ _ h => h) (Or.inl ⟨by rfl, ?_⟩) hHeld ?_; rotate_left; (intro w hSw; skip; (go_simp <;> with_reducible rfl)); simp only [List.getElem_toArray, List.getElem_cons_zero, List.getElem_cons_succ, Act.put, List.setIfInBounds_toArray, List.set_cons_zero, List.set_cons_succ])
          refine wpAnyH_ready (rs := [11]) (by kernel_rfl) (by simp) ?_
          refine (AllReadyH.cons rfl (fun K hK => ?_) AllReadyH.nil)
          go_simp
          skip
          refine hK.out _ _ trivial (fun hHeld => ?_)
          clear hK K
          try simp only [List.getElem_toArray, List.getElem_cons_zero, List.getElem_cons_succ, Act.put, List.setIfInBounds_toArray, List.set_cons_zero, List.set_cons_succ]
          refine wpAnyH_done (by kernel_rfl) ?_ _
          refine NoPanic.normal ?_
          have HB6 := hid (Blk.set4 HA5.out (.slice ap xs.length cp) (.int .i64 at') (.int .i64 (rst - st)) (.int .i64 N))
          have HO6 := hid ((ow_apart HO.out HA5.out (by decide) (grown_set4 W5 w.heap.size (.slice ap xs.length cp) (.int .i64 at') (.int .i64 (rst - st)) (.int .i64 N))).mono (base' := w.heap.size) (by show w.heap.size ≤ w4.heap.size; omega))
          have HC6 := hid (Blk.other4 HC5.out (b' := w.heap.size) (by omega) (.slice ap xs.length cp) (.int .i64 at') (.int .i64 (rst - st)) (.int .i64 N))
          have HW6 := hid (below_cell (below_cell (below_cell (below_cell HW5.out (Nat.le_refl _) 0 (.slice ap xs.length cp)) (Nat.le_refl _) 1 (.int .i64 at')) (Nat.le_refl _) 2 (.int .i64 (rst - st))) (Nat.le_refl _) 3 (.int .i64 N))
          have hz6 := hid (show w.heap.size + 3 ≤ ((((W5.setCell ⟨w.heap.size, 0, none⟩ (.slice ap xs.length cp)).setCell ⟨w.heap.size, 1, none⟩ (.int .i64 at')).setCell ⟨w.heap.size, 2, none⟩ (.int .i64 (rst - st))).setCell ⟨w.heap.size, 3, none⟩ (.int .i64 N)).heap.size by have h1 := (undrewB hb5).size; have h2 := (grown_set4 W5 w.heap.size (.slice ap xs.length cp) (.int .i64 at') (.int .i64 (rst - st)) (.int .i64 N)).size; omega)
          clear HA5 HC5 HW5 HO ho hb5 d0 d1 d2 d3 e0 e1 e2 e3
          go_wp2_with fail
          go_meet
          case rel => exact ⟨ap, cp, HB6.out, HO6.out, HC6.out, HW6.out, hz6.out⟩
        · go_simp
          skip
          refine hK.out _ _ trivial (fun hHeld => ?_)
          clear hK K
          try simp only [List.getElem_toArray, List.getElem_cons_zero, List.getElem_cons_succ, Act.put, List.setIfInBounds_toArray, List.set_cons_zero, List.set_cons_succ]
          refine wpAnyH_ready (rs := [2]) (by kernel_rfl) (by simp) ?_
          refine (AllReadyH.cons rfl (fun K hK => ?_) AllReadyH.nil)
          go_simp
          (refine (clone_calls _ xs _ (Sl.later (w' := w4.drew) H.out (drewB HW.out)) hlen).mono ?_; rintro e W5 ⟨v', rfl, ho, hb5⟩; obtain ⟨ap, cp, rfl, _⟩ := ho.sl; have HO := hid ho; have HA5 := hid (Blk.laterD HA.out hb5); have HC5 := hid (Blk.laterD HC.out hb5); have HW5 := hid (bthen HW.out (undrewB hb5)); obtain ⟨d0, d1, d2, d3, e0, e1, e2, e3⟩ := HA5.out.four)
          refine hK.out _ _ trivial (fun hHeld => ?_)
          clear hK K
          try dsimp only
          (refine wpAnyH_take (i := 10) (v := ?_) rfl (by kernel_rfl) (by kernel_rfl) (by kernel_rfl) (fun _ _ _ h => h) (Or.inl ⟨by rfl, ?_⟩) hHeld ?_; rotate_left; (intro w hSw; skip; (go_simp <;> with_reducible rfl)); simp only [List.getElem_toArray, List.getElem_cons_zero, List.getElem_cons_succ, Act.put, List.setIfInBounds_toArray, List.set_cons_zero, List.set_cons_succ])
          refine wpAnyH_ready (rs := [11]) (by kernel_rfl) (by simp) ?_
          refine (AllReadyH.cons rfl (fun K hK => ?_) AllReadyH.nil)
          go_simp
          skip
          refine hK.out _ _ trivial (fun hHeld => ?_)
          clear hK K
          try simp only [List.getElem_toArray, List.getElem_cons_zero, List.getElem_cons_succ, Act.put, List.setIfInBounds_toArray, List.set_cons_zero, List.set_cons_succ]
          refine wpAnyH_done (by kernel_rfl) ?_ _
          refine NoPanic.normal ?_
          have HB6 := hid (Blk.set4 HA5.out (.slice ap xs.length cp) (.int .i64 at') (.int .i64 (rst - st)) (.int .i64 N))
          have HO6 := hid ((ow_apart HO.out HA5.out (by decide) (grown_set4 W5 w.heap.size (.slice ap xs.length cp) (.int .i64 at') (.int .i64 (rst - st)) (.int .i64 N))).mono (base' := w.heap.size) (by show w.heap.size ≤ w4.heap.size; omega))
          have HC6 := hid (Blk.other4 HC5.out (b' := w.heap.size) (by omega) (.slice ap xs.length cp) (.int .i64 at') (.int .i64 (rst - st)) (.int .i64 N))
          have HW6 := hid (below_cell (below_cell (below_cell (below_cell HW5.out (Nat.le_refl _) 0 (.slice ap xs.length cp)) (Nat.le_refl _) 1 (.int .i64 at')) (Nat.le_refl _) 2 (.int .i64 (rst - st))) (Nat.le_refl _) 3 (.int .i64 N))
          have hz6 := hid (show w.heap.size + 3 ≤ ((((W5.setCell ⟨w.heap.size, 0, none⟩ (.slice ap xs.length cp)).setCell ⟨w.heap.size, 1, none⟩ (.int .i64 at')).setCell ⟨w.heap.size, 2, none⟩ (.int .i64 (rst - st))).setCell ⟨w.heap.size, 3, none⟩ (.int .i64 N)).heap.size by have h1 := (undrewB hb5).size; have h2 := (grown_set4 W5 w.heap.size (.slice ap xs.length cp) (.int .i64 at') (.int .i64 (rst - st)) (.int .i64 N)).size; omega)
          clear HA5 HC5 HW5 HO ho hb5 d0 d1 d2 d3 e0 e1 e2 e3
          go_wp2_with fail
          go_meet
          case rel => exact ⟨ap, cp, HB6.out, HO6.out, HC6.out, HW6.out, hz6.out⟩
      · go_simp
        skip
        refine hK.out _ _ trivial (fun hHeld => ?_)
        clear hK K
        try simp only [List.getElem_toArray, List.getElem_cons_zero, List.getElem_cons_succ, Act.put, List.setIfInBounds_toArray, List.set_cons_zero, List.set_cons_succ]
        refine wpAnyH_ready (rs := [1]) (by kernel_rfl) (by simp) ?_
        refine (AllReadyH.cons rfl (fun K hK => ?_) AllReadyH.nil)
        go_simp
        skip
        refine hK.out _ _ trivial (fun hHeld => ?_)
        clear hK K
        try simp only [List.getElem_toArray, List.getElem_cons_zero, List.getElem_cons_succ, Act.put, List.setIfInBounds_toArray, List.set_cons_zero, List.set_cons_succ]
        refine wpAnyH_ready (rs := [2]) (by kernel_rfl) (by simp) ?_
        refine (AllReadyH.cons rfl (fun K hK => ?_) AllReadyH.nil)
        go_simp
        (refine (clone_calls _ xs _ (Sl.later (w' := w4.drew) H.out (drewB HW.out)) hlen).mono ?_; rintro e W5 ⟨v', rfl, ho, hb5⟩; obtain ⟨ap, cp, rfl, _⟩ := ho.sl; have HO := hid ho; have HA5 := hid (Blk.laterD HA.out hb5); have HC5 := hid (Blk.laterD HC.out hb5); have HW5 := hid (bthen HW.out (undrewB hb5)); obtain ⟨d0, d1, d2, d3, e0, e1, e2, e3⟩ := HA5.out.four)
        refine hK.out _ _ trivial (fun hHeld => ?_)
        clear hK K
        try dsimp only
        (refine wpAnyH_take (i := 10) (v := ?_) rfl (by kernel_rfl) (by kernel_rfl) (by kernel_rfl) (fun _ _ _ h => h) (Or.inl ⟨by rfl, ?_⟩) hHeld ?_; rotate_left; (intro w hSw; skip; (go_simp <;> with_reducible rfl)); simp only [List.getElem_toArray, List.getElem_cons_zero, List.getElem_cons_succ, Act.put, List.setIfInBounds_toArray, List.set_cons_zero, List.set_cons_succ])
        refine wpAnyH_ready (rs := [11]) (by kernel_rfl) (by simp) ?_
        refine (AllReadyH.cons rfl (fun K hK => ?_) AllReadyH.nil)
        go_simp
        skip
        refine hK.out _ _ trivial (fun hHeld => ?_)
        clear hK K
        try simp only [List.getElem_toArray, List.getElem_cons_zero, List.getElem_cons_succ, Act.put, List.setIfInBounds_toArray, List.set_cons_zero, List.set_cons_succ]
        refine wpAnyH_done (by kernel_rfl) ?_ _
        refine NoPanic.normal ?_
        have HB6 := hid (Blk.set4 HA5.out (.slice ap xs.length cp) (.int .i64 at') (.int .i64 (rst - st)) (.int .i64 N))
        have HO6 := hid ((ow_apart HO.out HA5.out (by decide) (grown_set4 W5 w.heap.size (.slice ap xs.length cp) (.int .i64 at') (.int .i64 (rst - st)) (.int .i64 N))).mono (base' := w.heap.size) (by show w.heap.size ≤ w4.heap.size; omega))
        have HC6 := hid (Blk.other4 HC5.out (b' := w.heap.size) (by omega) (.slice ap xs.length cp) (.int .i64 at') (.int .i64 (rst - st)) (.int .i64 N))
        have HW6 := hid (below_cell (below_cell (below_cell (below_cell HW5.out (Nat.le_refl _) 0 (.slice ap xs.length cp)) (Nat.le_refl _) 1 (.int .i64 at')) (Nat.le_refl _) 2 (.int .i64 (rst - st))) (Nat.le_refl _) 3 (.int .i64 N))
        have hz6 := hid (show w.heap.size + 3 ≤ ((((W5.setCell ⟨w.heap.size, 0, none⟩ (.slice ap xs.length cp)).setCell ⟨w.heap.size, 1, none⟩ (.int .i64 at')).setCell ⟨w.heap.size, 2, none⟩ (.int .i64 (rst - st))).setCell ⟨w.heap.size, 3, none⟩ (.int .i64 N)).heap.size by have h1 := (undrewB hb5).size; have h2 := (grown_set4 W5 w.heap.size (.slice ap xs.length cp) (.int .i64 at') (.int .i64 (rst - st)) (.int .i64 N)).size; omega)
        clear HA5 HC5 HW5 HO ho hb5 d0 d1 d2 d3 e0 e1 e2 e3
        go_wp2_with fail
        go_meet
        case rel => exact ⟨ap, cp, HB6.out, HO6.out, HC6.out, HW6.out, hz6.out⟩
  case rest =>
    obtain ⟨ap, cp, HB, HO, HC6, HW6, hz6⟩ := hcut
    obtain ⟨a0, a1, a2, a3, _⟩ := HB.out.four
    go_wp2_with fail
    refine (unread_calls _ _ _ _ _ _ _).mono ?_
    rintro e w5 ⟨rfl, rfl⟩
    go_wp2_with fail
    have HSD : Hid (SD w w.heap.size wc.heap.size (w.heap.size + 1 + 1) (.slice ap xs.length cp) xs #[.slice ap xs.length cp, .int .i64 at', .int .i64 (rst - st), .int .i64 N] #[.int .i64 0, .slice none 0 0, .int .i64 0, .int .i64 0, .int .i64 0] at' (pull xs at' (rst - st) 0) (up N 0) (wc.alloc (.cells #[.slice ap xs.length cp, .int .i64 at', .int .i64 (rst - st), .int .i64 N] 88))) :=
      ⟨HB.out.alloc _, Blk.new _ _ _, HO.out.alloc _, HC6.out.alloc _, bmore HW6.out _⟩
    have hsz : (wc.alloc (.cells #[.slice ap xs.length cp, .int .i64 at', .int .i64 (rst - st), .int .i64 N] 88)).heap.size = wc.heap.size + 1 := by simp
    have hz := hz6.out
    clear HB HO HC6 HW6 hz6 a0 a1 a2 a3 HA HC HW H
    generalize wc.alloc (.cells #[.slice ap xs.length cp, .int .i64 at', .int .i64 (rst - st), .int .i64 N] 88) = W0 at *
    generalize wc.heap.size = bx at *
    have HSZ := hid hsz
    have hbB : bx + 1 = W0.heap.size := hsz.symm
    clear hsz
    generalize hK0 : shI N = K at *
    clear hK0
    generalize hR : rst - st = R at *
    clear hR
    refine wp_range (α := Int) (σ := Nat) (gf := 95) (lb := #[.pointer (some ⟨bx, 0, none⟩)]) rfl (enters_of Tryd.func95 (by kernel_rfl) rfl) (fun x => #[.int .u8 x]) (fun _ => rfl)
      (fun s x W => s ≤ K ∧ x = xs.getD (at' + s) 0 ∧ SD w w.heap.size bx (w.heap.size + 1 + 1) (.slice ap xs.length cp) xs #[.slice ap xs.length cp, .int .i64 at', .int .i64 R, .int .i64 N] #[.int .i64 0, .slice none 0 0, .int .i64 0, .int .i64 0, .int .i64 0] ((at' + s : Nat) : Int) (pull xs at' R s) (up N s) W)
      (fun s _ W => s < K ∧ SD w w.heap.size bx (w.heap.size + 1 + 1) (.slice ap xs.length cp) xs #[.slice ap xs.length cp, .int .i64 at', .int .i64 R, .int .i64 N] #[.int .i64 0, .slice none 0 0, .int .i64 0, .int .i64 0, .int .i64 0] ((at' + (s + 1) : Nat) : Int) (pull xs at' R (s + 1)) (up N (s + 1)) W)
      (fun _ _ c W => c = .exit 0 ∧ SD w w.heap.size bx (w.heap.size + 1 + 1) (.slice ap xs.length cp) xs #[.slice ap xs.length cp, .int .i64 at', .int .i64 R, .int .i64 N] #[.int .i64 0, .slice none 0 0, .int .i64 0, .int .i64 0, .int .i64 0] ((at' + K : Nat) : Int) (pull xs at' R K) (up N K) W)
      (fun _ => False)
      (fun c W => c = .exit 0 ∧ SD w w.heap.size bx (w.heap.size + 1 + 1) (.slice ap xs.length cp) xs #[.slice ap xs.length cp, .int .i64 at', .int .i64 R, .int .i64 N] #[.int .i64 0, .slice none 0 0, .int .i64 0, .int .i64 0, .int .i64 0] ((at' + K : Nat) : Int) (pull xs at' R K) (up N K) W)
      (fun s x W o o' h hl => ⟨h.1, h.2.1, h.2.2.put hl rfl (by omega) _⟩) (fun s x W o o' h hl => ⟨h.1, h.2.put hl rfl (by omega) _⟩) (fun s x c W o o' h hl => ⟨h.1, h.2.put hl rfl (by omega) _⟩)
      ?_ ?assign ?body ?iter (fun _ _ _ h _ => h.elim) ?stop
    case assign =>
      intro x W K hK
      gi_wp2
      exact hK
    case body =>
      rintro s x W hlt ⟨hs, rfl, hsd⟩
      obtain ⟨c0, c1, c2, c3, f0, f1, f2, f3⟩ := hsd.d.four
      have HS := hid hsd
      have hbd := CrcM.getD_bd hx (at' + s)
      obtain ⟨u1, u2, u3, u4⟩ := HU.out s hs
      obtain ⟨p1, p2⟩ := HP.out s
      by_cases h3 : s = K
      · subst h3
        have u5 := u4 rfl
        clear hsd u3 u4
        generalize up N s = U at *
        gi_wp2
        exact ⟨Kp2.refl _ _, rfl, HS.out⟩
      · have u5 := u3 (by omega)
        have Hp : Hid (pull xs at' R (s + 1) = pull xs at' R s * 256 + xs.getD (at' + s) 0) := rfl
        have Hu : Hid (up N (s + 1) = up N s * 256) := rfl
        have HR := hid (read_calls w.heap.size _ ((at' + s : Nat) : Int) (pull xs at' R s) (up N s) (xs.getD (at' + s) 0) _ W hsd.d (by omega) (by omega) (by omega) (by omega) hbd)
        have e1 : Hid (((at' + (s + 1) : Nat) : Int) = ((at' + s : Nat) : Int) + 1) := by unfold Hid; omega
        clear hsd u3 u4
        generalize up N s = U at *
        generalize ((at' + s : Nat) : Int) = A at *
        generalize xs.getD (at' + s) 0 = x at *
        generalize pull xs at' R s = P at *
        gi_wp2_with fail
        refine ⟨trivial, rfl, (CallsIn.inRound _ (callsIn_wide.2 HR.out)).mono ?_⟩
        rintro e W2 ⟨⟨r, rfl⟩, hb2, hg2⟩
        have HB2 := hid hb2
        have HG2 := hid hg2
        obtain ⟨d0, d1, d2, d3, g0, g1, g2, g3⟩ := hb2.four
        clear hb2 hg2 HR c0 c1 c2 c3 f0 f1 f2 f3
        gi_wp2
        refine ⟨Kp2.grown (B := W0.heap.size) (grown_same HG2.out (grown_set W2 w.heap.size 3 _)) hlt (fun j e => by cases e; omega), by omega, ?_⟩
        rw [e1.out, Hp.out, Hu.out]
        exact HS.out.turn (HB2.out.set 3 _) (grown_same HG2.out (grown_set W2 w.heap.size 3 _)) (by omega) (by omega) (Nat.le_refl _)
    case iter =>
      intro r0 rc W1 hg1 hsz1 hbk hY
      refine unread1_in _ _ _ (fun s W => s ≤ K ∧ SD w w.heap.size bx (w.heap.size + 1 + 1) (.slice ap xs.length cp) xs #[.slice ap xs.length cp, .int .i64 at', .int .i64 R, .int .i64 N] #[.int .i64 0, .slice none 0 0, .int .i64 0, .int .i64 0, .int .i64 0] ((at' + s : Nat) : Int) (pull xs at' R s) (up N s) W) _
        (a0 := at') (N := K) (xs := xs) (v := .slice ap xs.length cp) (rst := R) (rng := N) ?h1 ?h2 ?h3 ?h4 (by omega) hY W1 ?h5 hbk
      case h1 => exact fun s W h => ⟨h.2.b, h.2.o.sl, h.1⟩
      case h2 => exact fun s W W' h hb => ⟨h.1, rfl, h.2.later hb⟩
      case h3 => exact fun s x W h => ⟨h.1, h.2⟩
      case h4 => exact fun s x c W h => h
      case h5 => exact ⟨Nat.zero_le _, HSD.out.later ⟨hg1.os, hg1.tape, hg1.output, hg1.size, fun k hk => hg1.block k hk (by simp)⟩⟩
    case stop =>
      rintro r c W o ⟨rfl, hsd⟩ hbk
      have hsd2 := hsd.put hbk.l rfl (by omega) (.loop o)
      have hd : (W.putObj (W0.heap.size + 1) (.loop o)).heap[W0.heap.size]? = some (.deferred (some [])) := (World.putObj_heap_other (by omega)).trans hbk.d
      clear hsd hbk
      generalize W.putObj (W0.heap.size + 1) (.loop o) = W5 at *
      obtain ⟨c0, c1, c2, c3, _⟩ := hsd2.d.four
      obtain ⟨z0, z1, z2, z3, z4, f0, f1, f2, f3, f4⟩ := hsd2.z.five
      have HS := hid hsd2
      have HD := hid hd
      clear hsd2 hd HSD HU HP
      generalize pull xs at' R K = q1 at *
      generalize up N K = q2 at *
      generalize ((at' + K : Nat) : Int) = q3 at *
      go_wp2
      have HG := grown_set5 W5 (w.heap.size + 1 + 1) (.int .i64 0) (.slice ap xs.length cp) (.int .i64 q3) (.int .i64 q1) (.int .i64 q2)
      have hd5 := (HG.block W0.heap.size (Array.getElem?_eq_some_iff.1 HD.out).1 (by simp; omega)).trans HD.out
      have HZ := (Blk.set5 HS.out.z (.int .i64 0) (.slice ap xs.length cp) (.int .i64 q3) (.int .i64 q1) (.int .i64 q2)).put hd5 rfl (.deferred none)
      obtain ⟨y0, y1, y2, y3, y4, _⟩ := HZ.five
      refine leaves_mark hd5 ?_
      refine ⟨.agg #[.int .i64 0, .slice ap xs.length cp, .int .i64 q3, .int .i64 q1, .int .i64 q2], by simp [results, Tryd.results105, go_sem, y0, y1, y2, y3, y4], _, rfl, ?_, ?_⟩
      · exact Ow.put (ow_apart HS.out.o HS.out.z (by decide) HG) hd5 rfl _
      · exact below_put (below_set5 HS.out.l (by omega) _ _ _ _ _) hd5 (by omega) _
theorem implTake_calls (v : Value) (d : Dv) (lo sz tot : Int) (w : World) (h : Sl .u8 w v d.xs) (hx : BytesL d.xs) (hlen : d.xs.length ≤ 1048576) :
    Calls Tryd.prog 105 #[.agg #[v, .int .i64 d.at', .int .i64 d.rst, .int .i64 d.rng], .agg #[.int .i64 lo, .int .i64 sz, .int .i64 tot]] w (DR w (tC d lo sz tot) (tD d lo sz tot)) := by
  obtain ⟨xs, at', rst, rng⟩ := d
  dsimp only at *
  have H := h
  obtain ⟨a, cap, rfl, _⟩ := h
  by_cases hf : tC ⟨xs, at', rst, rng⟩ lo sz tot = 0
  · have hf' := hf
    unfold tC at hf'
    dsimp only at hf'
    by_cases hd : dF xs.length at' rst rng = 0
    · rw [if_pos hd] at hf'
      by_cases hs : sF lo sz tot = 0
      · rw [if_pos hs] at hf'
        by_cases hfu : 9996 < at'
        · rw [if_pos hfu] at hf'; cases hf'
        · rw [if_neg hfu] at hf'
          cases hv : inB lo (lo + sz - 1) (nV rst rng tot)
          · rw [hv] at hf'; cases hf'
          · obtain ⟨hv1, hv2⟩ := of_inB hv
            obtain ⟨_, ⟨ha1, _⟩, _⟩ := of_dF hd
            have e : tD ⟨xs, at', rst, rng⟩ lo sz tot = tN ⟨xs, at', rst, rng⟩ lo sz tot := if_pos hf
            rw [hf, e]
            obtain ⟨n, rfl⟩ := Int.eq_ofNat_of_zero_le ha1
            exact implTake_ok a cap xs n rst rng lo sz tot w H hx hlen hd hs (by omega) hv1 (by omega)
      · rw [if_neg hs] at hf'; exact absurd hf' hs
    · rw [if_neg hd] at hf'; exact absurd hf' hd
  · have e : tD ⟨xs, at', rst, rng⟩ lo sz tot = dv0 := if_neg hf
    rw [e]
    exact implTake_fail a cap xs at' rst rng lo sz tot w hlen hf
end Go.Proofs.YthecfboplfmdmaaDoor.TakI
