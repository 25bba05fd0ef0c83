/- The program's coder comes to its end: three last bytes, and no zeros at the end. -/
import Derived.Test.YthecfboplfmdmaaDoorNar
namespace Go.Proofs.YthecfboplfmdmaaDoor.End
open Go.ChangeShapes Go.WideShapes Go.ChangeAt Go.RowKit Go.Proofs.YthecfboplfmdmaaDoor.Num Go.Proofs.YthecfboplfmdmaaDoor.Sli Go.Proofs.YthecfboplfmdmaaDoor.App Go.Proofs.YthecfboplfmdmaaDoor.Byt Go.Proofs.YthecfboplfmdmaaDoor.CrcM Go.Proofs.YthecfboplfmdmaaDoor.Str Go.Proofs.YthecfboplfmdmaaDoor.Div Go.Proofs.YthecfboplfmdmaaDoor.Dec Go.Proofs.YthecfboplfmdmaaDoor.Blk Go.Proofs.YthecfboplfmdmaaDoor.Nxt Go.Proofs.YthecfboplfmdmaaDoor.Byte Go.Proofs.YthecfboplfmdmaaDoor.TakS Go.Proofs.YthecfboplfmdmaaDoor.TakT Go.Proofs.YthecfboplfmdmaaDoor.RngF Go.Proofs.YthecfboplfmdmaaDoor.RndF Go.Proofs.YthecfboplfmdmaaDoor.RangeM Go.Proofs.YthecfboplfmdmaaDoor.CarM Go.Proofs.YthecfboplfmdmaaDoor.Shf Go.Proofs.YthecfboplfmdmaaDoor.Nar
attribute [local go_sem] Oper.semAt_some

theorem take_snoc (xs : List Int) (m : Nat) (h : m < xs.length) : xs.take (m + 1) = xs.take m ++ [xs.getD m 0] := by
  rw [List.take_add_one, List.getElem?_eq_getElem h, List.getD_eq_getElem?_getD, List.getElem?_eq_getElem h]
  rfl
theorem trim_take (xs : List Int) : trim xs = xs.take (trim xs).length := by
  have h : trim xs <+: xs := by
    have := List.reverse_prefix.2 (List.dropWhile_suffix (l := xs.reverse) (· == 0))
    rw [List.reverse_reverse] at this
    exact this
  exact List.prefix_iff_eq_take.1 h
theorem trim_cut (xs : List Int) (m : Nat) (h : m < xs.length) (h0 : xs.getD m 0 = 0) : trim (xs.take (m + 1)) = trim (xs.take m) := by
  rw [take_snoc xs m h, h0, trim_snoc_zero]
theorem trim_stop (xs : List Int) (m : Nat) (h : m < xs.length) (h0 : xs.getD m 0 ≠ 0) : trim (xs.take (m + 1)) = xs.take (m + 1) := by
  rw [take_snoc xs m h, trim_snoc _ _ h0]
/-- The first m of a list lie as the list lies. -/
theorem ow_take {base g cap n m : Nat} {w : World} {xs : List Int} (h : OwB base w (.slice (some ⟨g, 0, none⟩) n cap) xs) (hn : n = xs.length) (hm : m ≤ n) : OwB base w (.slice (some ⟨g, 0, none⟩) m cap) (xs.take m) := by
  subst hn
  have h' : w.ownsRow base 5 1 (.slice (some ⟨g, 0, none⟩) xs.length cap) xs.length (xs.map (Value.int .u8)) := h
  have hl : (xs.take m).length = m := by rw [List.length_take]; omega
  show w.ownsRow base 5 1 _ (xs.take m).length ((xs.take m).map (Value.int .u8))
  rw [hl]
  refine ⟨by rw [List.length_map, hl, Nat.mul_one], ?_⟩
  rcases h'.2 with ⟨h0, _⟩ | ⟨g', cap', cur, h0, h1, h2, h3, h4, h5, h6⟩
  · cases h0
  · cases h0
    refine .inr ⟨g, cap, cur, rfl, h1, h2, by omega, h4, h5, ?_⟩
    rw [List.map_take, ← h6, List.take_take, Nat.mul_one, Nat.mul_one, Nat.min_eq_left hm]
def slen : Value → Nat
  | .slice _ n _ => n
  | _ => 0
set_option maxHeartbeats 1000000 in
theorem trimRightByte_calls (base g cap n : Nat) (xs : List Int) (w : World) (h : OwB base w (.slice (some ⟨g, 0, none⟩) n cap) xs) (hn : n = xs.length) (hlen : n ≤ 1048576) (hb : BytesL xs) :
    Calls Tryd.prog 91 #[.slice (some ⟨g, 0, none⟩) n cap, .int .u8 0] w fun e w' => e = .returned (.slice (some ⟨g, 0, none⟩) (trim xs).length cap) ∧ w' = w := by
  have hcap : n ≤ cap ∧ cap ≤ maxLen := by
    subst hn
    have h' : w.ownsRow base 5 1 (.slice (some ⟨g, 0, none⟩) xs.length cap) xs.length (xs.map (Value.int .u8)) := h
    rcases h'.2 with ⟨h0, _⟩ | ⟨g', cap', cur, h0, h1, h2, h3, h4, h5, h6⟩
    · cases h0
    · cases h0; exact ⟨h3, h4⟩
  obtain ⟨hc1, hc2⟩ := hcap
  have hc3 : cap ≤ 9223372036854775807 := by rw [show maxLen = 9223372036854775807 by decide] at hc2; exact hc2
  have H := hid h
  clear h hc2
  go_enter Tryd.func91, Tryd.ntmps91
  go_wp2
  go_loopw [0] (fun v wr => ∃ m : Nat, m ≤ xs.length ∧ v = .slice (some ⟨g, 0, none⟩) m cap ∧ trim (xs.take m) = trim xs ∧ wr = w) (fun v _ => slen v)
  case atStart => exact ⟨n, by omega, rfl, by rw [hn, List.take_length], rfl⟩
  case round =>
    obtain ⟨m, hm, rfl, htr, rfl⟩ := hrel
    have Htr := hid htr
    clear htr
    cases m with
    | zero =>
      have e1 : (trim xs).length = 0 := by rw [← Htr.out]; simp [trim]
      have E1 := hid e1
      clear e1
      go_wp2
      go_ret
      exact ⟨by rw [E1.out]; rfl, rfl⟩
    | succ m =>
      obtain ⟨hcell, _⟩ := H.out.cellAt hn m (by omega)
      have hbd := CrcM.getD_bd hb m
      have hi : ((m + 1 : Nat) : Int) - 1 = (m : Int) := by omega
      by_cases h0 : xs.getD m 0 = 0
      · have Hc := hid (trim_cut xs m (by omega) h0)
        rw [h0] at hcell
        clear h0 hbd
        go_wp2
        go_roundw
        case rel => exact ⟨m, by omega, by first | rfl | simp, by rw [← Hc.out]; exact Htr.out, trivial⟩
        case measure => simp [slen]
      · have Hc := hid (trim_stop xs m (by omega) h0)
        have e1 : (trim xs).length = m + 1 := by rw [← Htr.out, Hc.out, List.length_take]; omega
        have h1 : (xs.getD m 0 == 0) = false := by simpa using h0
        have E1 := hid e1
        clear h0 e1
        generalize xs.getD m 0 = x at *
        go_wp2
        go_ret
        exact ⟨by rw [E1.out]; rfl, rfl⟩
set_option maxRecDepth 100000 in
theorem trimRight_calls (base g cap n : Nat) (xs : List Int) (w : World) (h : OwB base w (.slice (some ⟨g, 0, none⟩) n cap) xs) (hn : n = xs.length) (hlen : n ≤ 1048576) (hb : BytesL xs) (hpos : 0 < n) :
    Calls Tryd.prog 69 #[.slice (some ⟨g, 0, none⟩) n cap, .string { data := #[0] }] w fun e w' => e = .returned (.slice (some ⟨g, 0, none⟩) (trim xs).length cap) ∧ w' = w := by
  have HT := hid (trimRightByte_calls base g cap n xs w h hn hlen hb)
  have h0 : ((n : Int) == 0) = false := by simp; omega
  clear h hn
  go_enter Tryd.func69, Tryd.ntmps69
  go_wp2_with fail
  refine HT.out.mono ?_
  rintro e w' ⟨rfl, rfl⟩
  go_wp2
  go_ret
  exact ⟨rfl, rfl⟩
theorem end_step {base g k n r : Nat} {v v' : Value} {W w1 w2 : World} {o : Obj} (h : CS base g ⟨k, n, r⟩ v W)
    (hb : Blk w1 g #[v, .int .i64 (((n % 16777216 : Nat) : Int) % 65536 * 256), .int .i64 ((r : Int) * 256)] 81) (hg : W.drew.grownBy w1 (some g))
    (ho : OwB base w2 v' (digs k (n / 16777216) ++ [((n % 16777216 : Nat) : Int) / 65536])) (hg2 : (w1.alloc o).grownBy w2 v.ownBlock) (hbg : base ≤ g) :
    CS base g ⟨k + 1, n * 256, r * 256⟩ v' (w2.setCell ⟨g, 0, none⟩ v') ∧ Below base W (w2.setCell ⟨g, 0, none⟩ v') := by
  have e1 := shift_out k n
  have e2 : ((n % 16777216 : Nat) : Int) / 65536 = ((n % 16777216 / 65536 : Nat) : Int) := by omega
  rw [e2, ← e1.1] at ho
  have hW := h.b.lt
  have ho1 : OwB base w1 v (digs k (n / 16777216)) := ow_apart (show OwB base W.drew v _ from h.o) (h.b.drew 1) (by decide) hg
  have hb2 : Blk w2 g _ _ := (hb.alloc o).kept hg2 (own_ne ho1 hb (by decide))
  have hs := grown_set w2 g 0 v'
  have hsz := hg.size
  refine ⟨⟨?_, ow_apart ho hb2 (by decide) hs⟩, ?_⟩
  · have := hb2.set 0 v'
    have e3 : ((n * 256 % 16777216 : Nat) : Int) = ((n % 16777216 : Nat) : Int) % 65536 * 256 := by rw [e1.2]; omega
    have e4 : ((r * 256 : Nat) : Int) = (r : Int) * 256 := by omega
    show Blk _ g #[v', .int .i64 ((n * 256 % 16777216 : Nat) : Int), .int .i64 ((r * 256 : Nat) : Int)] _
    rw [e3, e4]
    exact this
  · have l1 : Below base W w1 := (drewB (Below.refl base W)).trans (below_of_grown hg (by show base ≤ W.heap.size; omega) (fun j e => by cases e; exact hbg))
    have l2 : Below base W (w1.alloc o) := l1.alloc (by have := l1.size; omega) o
    exact below_cell (l2.trans (below_of_grown hg2 (by have := hb.lt; simp; omega) (fun j e => (ho1.block j e).1))) hbg _ _
attribute [-go_sem] Builtin.append_
set_option maxRecDepth 100000 in
set_option maxHeartbeats 2000000 in
theorem end_calls (base g : Nat) (e : En) (v : Value) (w : World) (h : CS base g e v w) (hr : e.r ≤ 16777216) (hk : e.k ≤ 90000) (hbg : base ≤ g) :
    Calls Tryd.prog 53 #[.pointer (some ⟨g, 0, none⟩)] w fun e' w' => ∃ gc cc, e' = .returned (.slice (some ⟨gc, 0, none⟩) (trim (digs (e.k + 3) e.n)).length cc) ∧ OwB base w' (.slice (some ⟨gc, 0, none⟩) (trim (digs (e.k + 3) e.n)).length cc) (trim (digs (e.k + 3) e.n)) ∧ Below base w w' := by
  have HC := hid h
  clear h
  go_enter Tryd.func53, Tryd.ntmps53
  go_wp2_with fail
  go_loopw [3] (fun i wr => ∃ j : Nat, j ≤ 3 ∧ i = .int .i64 j ∧ ∃ v, Hid (CS base g ⟨e.k + j, e.n * 256 ^ j, e.r * 256 ^ j⟩ v wr) ∧ Hid (Below base w wr)) (fun i _ => 3 - (intOf i).toNat)
  case atStart => exact ⟨0, by omega, rfl, v, (by have h0 : (⟨e.k + 0, e.n * 256 ^ 0, e.r * 256 ^ 0⟩ : En) = e := (by simp); rw [h0]; exact HC.out), Below.refl _ _⟩
  case round =>
    obtain ⟨j, hj, rfl, v, hc, hl⟩ := hrel
    by_cases h3 : j < 3
    · have hlow : e.n * 256 ^ j % 16777216 < 16777216 := Nat.mod_lt _ (by decide)
      have hlen : e.r * 256 ^ j ≤ 1099511627776 := by
        obtain rfl | rfl | rfl : j = 0 ∨ j = 1 ∨ j = 2 := by omega
        all_goals simp; omega
      obtain ⟨c0, c1, c2, f0, f1, f2⟩ := hc.out.b.three
      have HSh := hid (shift_calls g v ((e.n * 256 ^ j % 16777216 : Nat) : Int) ((e.r * 256 ^ j : Nat) : Int) _ wr.drew (hc.out.b.drew 1) (by omega) (by omega) (by omega) (by omega))
      have hstep : Hid (∀ (v' : Value) (w1 w2 : World) (o : Obj), _) := hid (fun v' w1 w2 o => @end_step base g (e.k + j) (e.n * 256 ^ j) (e.r * 256 ^ j) v v' wr w1 w2 o hc.out)
      have ho := hid hc.out.o
      have hbase : base ≤ wr.heap.size := by have := hc.out.b.lt; omega
      have hbx := hid (hc.out.b.drew 1)
      have e1 : Hid (CS base g ⟨e.k + j + 1, e.n * 256 ^ j * 256, e.r * 256 ^ j * 256⟩ = CS base g ⟨e.k + (j + 1), e.n * 256 ^ (j + 1), e.r * 256 ^ (j + 1)⟩) := by
        show _ = _
        rw [Nat.pow_succ, ← Nat.mul_assoc, ← Nat.mul_assoc, Nat.add_assoc]
      dsimp only at ho HSh hbx c1 c2
      clear hc
      generalize e.n * 256 ^ j = n at *
      generalize e.r * 256 ^ j = r at *
      generalize hlw : ((n % 16777216 : Nat) : Int) = low at *
      go_wp2_with fail
      refine wp_region_noPanic ?_
      refine wp_region_held_drew (S := fun _ => True) (by kernel_rfl) trivial (fun hHeld => ?_)
      (refine wpAnyH_take (i := 0) (v := ?_) rfl (by kernel_rfl) (by kernel_rfl) (by kernel_rfl) (fun _ _ _ h => h) (Or.inl ⟨by rfl, ?_⟩) hHeld ?_; rotate_left; (intro w hSw; skip; (go_simp <;> with_reducible rfl)); simp only [List.getElem_toArray, List.getElem_cons_zero, Act.put, List.setIfInBounds_toArray, List.set_cons_zero, List.set_cons_succ])
      (refine wpAnyH_take (i := 1) (v := ?_) rfl (by kernel_rfl) (by kernel_rfl) (by kernel_rfl) (fun _ _ _ h => h) (Or.inl ⟨by rfl, ?_⟩) hHeld ?_; rotate_left; (intro w hSw; skip; (go_simp <;> with_reducible rfl)); simp only [List.getElem_toArray, List.getElem_cons_zero, List.getElem_cons_succ, Act.put, List.setIfInBounds_toArray, List.set_cons_zero, List.set_cons_succ])
      (refine wpAnyH_take (i := 2) (v := ?_) rfl (by kernel_rfl) (by kernel_rfl) (by kernel_rfl) (fun _ _ _ h => h) (Or.inl ⟨by rfl, ?_⟩) hHeld ?_; rotate_left; (intro w hSw; skip; (go_simp <;> with_reducible rfl)); simp only [List.getElem_toArray, List.getElem_cons_zero, List.getElem_cons_succ, Act.put, List.setIfInBounds_toArray, List.set_cons_zero, List.set_cons_succ])
      (refine wpAnyH_take (i := 3) (v := ?_) rfl (by kernel_rfl) (by kernel_rfl) (by kernel_rfl) (fun _ _ _ h => h) (Or.inl ⟨by rfl, ?_⟩) hHeld ?_; rotate_left; (intro w hSw; skip; (go_simp <;> with_reducible rfl)); simp only [List.getElem_toArray, List.getElem_cons_zero, List.getElem_cons_succ, Act.put, List.setIfInBounds_toArray, List.set_cons_zero, List.set_cons_succ])
      (refine wpAnyH_take (i := 5) (v := ?_) rfl (by kernel_rfl) (by kernel_rfl) (by kernel_rfl) (fun _ _ _ h => h) (Or.inl ⟨by rfl, ?_⟩) hHeld ?_; rotate_left; (intro w hSw; skip; (go_simp <;> with_reducible rfl)); simp only [List.getElem_toArray, List.getElem_cons_zero, List.getElem_cons_succ, Act.put, List.setIfInBounds_toArray, List.set_cons_zero, List.set_cons_succ])
      refine wpAnyH_ready (rs := [4, 6]) (by kernel_rfl) (by simp) ?_
      refine (AllReadyH.cons rfl (fun K hK => ?_) (AllReadyH.cons rfl (fun K hK => ?_) AllReadyH.nil))
      · go_simp
        skip
        refine hK.out _ _ trivial (fun hHeld => ?_)
        clear hK K
        try simp only [List.getElem_toArray, List.getElem_cons_zero, List.getElem_cons_succ, Act.put, List.setIfInBounds_toArray, List.set_cons_zero, List.set_cons_succ]
        refine wpAnyH_ready (rs := [6]) (by kernel_rfl) (by simp) ?_
        refine (AllReadyH.cons rfl (fun K hK => ?_) AllReadyH.nil)
        go_simp
        (refine HSh.out.mono ?_; rintro e' w1 ⟨rfl, hb1, hg1⟩; have ho1 := ow_apart (show OwB base wr.drew v _ from ho.out) hbx.out (by decide) hg1; obtain ⟨gc, cc, w2, hrun, ho2, hg2, _⟩ := app_one (W := w1) (b := low / 65536) 22 ho1 (Nat.le_trans hbase hg1.size) (by rw [digs_len]; omega); obtain ⟨x0, x1, x2, y0, y1, y2⟩ := hb1.three; obtain ⟨a0, _⟩ := (hb1.alloc (.cells #[.int .u8 (low / 65536)] 5)).three; obtain ⟨d0, _, _, g0, _⟩ := ((hb1.alloc (.cells #[.int .u8 (low / 65536)] 5)).kept hg2 (own_ne ho1 hb1 (by decide))).three; have HE := hid (hstep.out _ w1 w2 _ hb1 hg1 ho2 hg2 hbg); clear hb1 hg1 ho1 ho2 hg2)
        refine hK.out _ _ trivial (fun hHeld => ?_)
        clear hK K
        try dsimp only
        refine wpAnyH_ready (rs := [7]) (by kernel_rfl) (by simp) ?_
        refine (AllReadyH.cons rfl (fun K hK => ?_) AllReadyH.nil)
        go_simp
        skip
        refine hK.out _ _ trivial (fun hHeld => ?_)
        clear hK K
        try simp only [List.getElem_toArray, List.getElem_cons_zero, List.getElem_cons_succ, Act.put, List.setIfInBounds_toArray, List.set_cons_zero, List.set_cons_succ]
        refine wpAnyH_ready (rs := [8]) (by kernel_rfl) (by simp) ?_
        refine (AllReadyH.cons rfl (fun K hK => ?_) AllReadyH.nil)
        go_simp
        skip
        refine hK.out _ _ trivial (fun hHeld => ?_)
        clear hK K
        try simp only [List.getElem_toArray, List.getElem_cons_zero, List.getElem_cons_succ, Act.put, List.setIfInBounds_toArray, List.set_cons_zero, List.set_cons_succ]
        (refine wpAnyH_take (i := 9) (v := ?_) rfl (by kernel_rfl) (by kernel_rfl) (by kernel_rfl) (fun _ _ _ h => h) (Or.inl ⟨by rfl, ?_⟩) hHeld ?_; rotate_left; (intro w hSw; skip; (go_simp <;> with_reducible rfl)); simp only [List.getElem_toArray, List.getElem_cons_zero, List.getElem_cons_succ, Act.put, List.setIfInBounds_toArray, List.set_cons_zero, List.set_cons_succ])
        (refine wpAnyH_take (i := 10) (v := ?_) rfl (by kernel_rfl) (by kernel_rfl) (by kernel_rfl) (fun _ _ _ h => h) (Or.inl ⟨by rfl, ?_⟩) hHeld ?_; rotate_left; (intro w hSw; skip; (go_simp <;> with_reducible rfl)); simp only [List.getElem_toArray, List.getElem_cons_zero, List.getElem_cons_succ, Act.put, List.setIfInBounds_toArray, List.set_cons_zero, List.set_cons_succ])
        refine wpAnyH_ready (rs := [11]) (by kernel_rfl) (by simp) ?_
        refine (AllReadyH.cons rfl (fun K hK => ?_) AllReadyH.nil)
        go_simp
        skip
        refine hK.out _ _ trivial (fun hHeld => ?_)
        clear hK K
        try simp only [List.getElem_toArray, List.getElem_cons_zero, List.getElem_cons_succ, Act.put, List.setIfInBounds_toArray, List.set_cons_zero, List.set_cons_succ]
        refine wpAnyH_done (by kernel_rfl) ?_ _
        refine NoPanic.normal ?_
        go_wp2
        go_roundw
        case rel => exact ⟨j + 1, by omega, by go_num, _, (by rw [← e1.out]; exact HE.out.1), hl.out.trans HE.out.2⟩
        case measure => simp [intOf]; omega
      · go_simp
        (refine HSh.out.mono ?_; rintro e' w1 ⟨rfl, hb1, hg1⟩; have ho1 := ow_apart (show OwB base wr.drew v _ from ho.out) hbx.out (by decide) hg1; obtain ⟨gc, cc, w2, hrun, ho2, hg2, _⟩ := app_one (W := w1) (b := low / 65536) 22 ho1 (Nat.le_trans hbase hg1.size) (by rw [digs_len]; omega); obtain ⟨x0, x1, x2, y0, y1, y2⟩ := hb1.three; obtain ⟨a0, _⟩ := (hb1.alloc (.cells #[.int .u8 (low / 65536)] 5)).three; obtain ⟨d0, _, _, g0, _⟩ := ((hb1.alloc (.cells #[.int .u8 (low / 65536)] 5)).kept hg2 (own_ne ho1 hb1 (by decide))).three; have HE := hid (hstep.out _ w1 w2 _ hb1 hg1 ho2 hg2 hbg); clear hb1 hg1 ho1 ho2 hg2)
        refine hK.out _ _ trivial (fun hHeld => ?_)
        clear hK K
        try dsimp only
        refine wpAnyH_ready (rs := [4, 7]) (by kernel_rfl) (by simp) ?_
        refine (AllReadyH.cons rfl (fun K hK => ?_) (AllReadyH.cons rfl (fun K hK => ?_) AllReadyH.nil))
        · go_simp
          skip
          refine hK.out _ _ trivial (fun hHeld => ?_)
          clear hK K
          try simp only [List.getElem_toArray, List.getElem_cons_zero, List.getElem_cons_succ, Act.put, List.setIfInBounds_toArray, List.set_cons_zero, List.set_cons_succ]
          refine wpAnyH_ready (rs := [7]) (by kernel_rfl) (by simp) ?_
          refine (AllReadyH.cons rfl (fun K hK => ?_) AllReadyH.nil)
          go_simp
          skip
          refine hK.out _ _ trivial (fun hHeld => ?_)
          clear hK K
          try simp only [List.getElem_toArray, List.getElem_cons_zero, List.getElem_cons_succ, Act.put, List.setIfInBounds_toArray, List.set_cons_zero, List.set_cons_succ]
          refine wpAnyH_ready (rs := [8]) (by kernel_rfl) (by simp) ?_
          refine (AllReadyH.cons rfl (fun K hK => ?_) AllReadyH.nil)
          go_simp
          skip
          refine hK.out _ _ trivial (fun hHeld => ?_)
          clear hK K
          try simp only [List.getElem_toArray, List.getElem_cons_zero, List.getElem_cons_succ, Act.put, List.setIfInBounds_toArray, List.set_cons_zero, List.set_cons_succ]
          (refine wpAnyH_take (i := 9) (v := ?_) rfl (by kernel_rfl) (by kernel_rfl) (by kernel_rfl) (fun _ _ _ h => h) (Or.inl ⟨by rfl, ?_⟩) hHeld ?_; rotate_left; (intro w hSw; skip; (go_simp <;> with_reducible rfl)); simp only [List.getElem_toArray, List.getElem_cons_zero, List.getElem_cons_succ, Act.put, List.setIfInBounds_toArray, List.set_cons_zero, List.set_cons_succ])
          (refine wpAnyH_take (i := 10) (v := ?_) rfl (by kernel_rfl) (by kernel_rfl) (by kernel_rfl) (fun _ _ _ h => h) (Or.inl ⟨by rfl, ?_⟩) hHeld ?_; rotate_left; (intro w hSw; skip; (go_simp <;> with_reducible rfl)); simp only [List.getElem_toArray, List.getElem_cons_zero, List.getElem_cons_succ, Act.put, List.setIfInBounds_toArray, List.set_cons_zero, List.set_cons_succ])
          refine wpAnyH_ready (rs := [11]) (by kernel_rfl) (by simp) ?_
          refine (AllReadyH.cons rfl (fun K hK => ?_) AllReadyH.nil)
          go_simp
          skip
          refine hK.out _ _ trivial (fun hHeld => ?_)
          clear hK K
          try simp only [List.getElem_toArray, List.getElem_cons_zero, List.getElem_cons_succ, Act.put, List.setIfInBounds_toArray, List.set_cons_zero, List.set_cons_succ]
          refine wpAnyH_done (by kernel_rfl) ?_ _
          refine NoPanic.normal ?_
          go_wp2
          go_roundw
          case rel => exact ⟨j + 1, by omega, by go_num, _, (by rw [← e1.out]; exact HE.out.1), hl.out.trans HE.out.2⟩
          case measure => simp [intOf]; omega
        · go_simp
          skip
          refine hK.out _ _ trivial (fun hHeld => ?_)
          clear hK K
          try simp only [List.getElem_toArray, List.getElem_cons_zero, List.getElem_cons_succ, Act.put, List.setIfInBounds_toArray, List.set_cons_zero, List.set_cons_succ]
          refine wpAnyH_ready (rs := [4]) (by kernel_rfl) (by simp) ?_
          refine (AllReadyH.cons rfl (fun K hK => ?_) AllReadyH.nil)
          go_simp
          skip
          refine hK.out _ _ trivial (fun hHeld => ?_)
          clear hK K
          try simp only [List.getElem_toArray, List.getElem_cons_zero, List.getElem_cons_succ, Act.put, List.setIfInBounds_toArray, List.set_cons_zero, List.set_cons_succ]
          refine wpAnyH_ready (rs := [8]) (by kernel_rfl) (by simp) ?_
          refine (AllReadyH.cons rfl (fun K hK => ?_) AllReadyH.nil)
          go_simp
          skip
          refine hK.out _ _ trivial (fun hHeld => ?_)
          clear hK K
          try simp only [List.getElem_toArray, List.getElem_cons_zero, List.getElem_cons_succ, Act.put, List.setIfInBounds_toArray, List.set_cons_zero, List.set_cons_succ]
          (refine wpAnyH_take (i := 9) (v := ?_) rfl (by kernel_rfl) (by kernel_rfl) (by kernel_rfl) (fun _ _ _ h => h) (Or.inl ⟨by rfl, ?_⟩) hHeld ?_; rotate_left; (intro w hSw; skip; (go_simp <;> with_reducible rfl)); simp only [List.getElem_toArray, List.getElem_cons_zero, List.getElem_cons_succ, Act.put, List.setIfInBounds_toArray, List.set_cons_zero, List.set_cons_succ])
          (refine wpAnyH_take (i := 10) (v := ?_) rfl (by kernel_rfl) (by kernel_rfl) (by kernel_rfl) (fun _ _ _ h => h) (Or.inl ⟨by rfl, ?_⟩) hHeld ?_; rotate_left; (intro w hSw; skip; (go_simp <;> with_reducible rfl)); simp only [List.getElem_toArray, List.getElem_cons_zero, List.getElem_cons_succ, Act.put, List.setIfInBounds_toArray, List.set_cons_zero, List.set_cons_succ])
          refine wpAnyH_ready (rs := [11]) (by kernel_rfl) (by simp) ?_
          refine (AllReadyH.cons rfl (fun K hK => ?_) AllReadyH.nil)
          go_simp
          skip
          refine hK.out _ _ trivial (fun hHeld => ?_)
          clear hK K
          try simp only [List.getElem_toArray, List.getElem_cons_zero, List.getElem_cons_succ, Act.put, List.setIfInBounds_toArray, List.set_cons_zero, List.set_cons_succ]
          refine wpAnyH_done (by kernel_rfl) ?_ _
          refine NoPanic.normal ?_
          go_wp2
          go_roundw
          case rel => exact ⟨j + 1, by omega, by go_num, _, (by rw [← e1.out]; exact HE.out.1), hl.out.trans HE.out.2⟩
          case measure => simp [intOf]; omega
    · obtain rfl : j = 3 := by omega
      obtain ⟨c0, c1, c2, f0, f1, f2⟩ := hc.out.b.three
      have e1 : e.n * 256 ^ 3 / 16777216 = e.n := by omega
      have ho := hc.out.o
      dsimp only at ho
      rw [e1] at ho
      have hrow : wr.ownsRow base 5 1 v (digs (e.k + 3) e.n).length ((digs (e.k + 3) e.n).map (Value.int .u8)) := ho
      rw [digs_len] at hrow
      obtain ⟨gc, cc, rfl⟩ := ownsRow_succ hrow
      have HT := hid (trimRight_calls base gc cc (e.k + 3) _ wr ho (by rw [digs_len]) (by omega) (digs_bd _ _) (by omega))
      have HO := hid ho
      clear hrow ho hc e1
      go_wp2_with fail
      refine HT.out.mono ?_
      rintro e' w' ⟨rfl, rfl⟩
      go_wp2
      go_ret
      refine ⟨gc, cc, rfl, ?_, hl.out⟩
      have h1 := ow_take (m := (trim (digs (e.k + 3) e.n)).length) HO.out (by rw [digs_len]) (by have := trim_len (digs (e.k + 3) e.n); rw [digs_len] at this; exact this)
      rwa [← trim_take] at h1
end Go.Proofs.YthecfboplfmdmaaDoor.End
