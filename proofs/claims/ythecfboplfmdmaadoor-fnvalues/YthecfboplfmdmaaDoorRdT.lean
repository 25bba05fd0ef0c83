/- The model's DecodeValues. -/
import Derived.Test.YthecfboplfmdmaaDoorRdS
import Derived.Test.YthecfboplfmdmaaDoorRdD
import Derived.Deep.RegionHeld3
namespace Go.Proofs.YthecfboplfmdmaaDoor.RdT
open Go.ChangeShapes Go.WideShapes Go.ChangeAt Go.RowKit Go.Proofs.YthecfboplfmdmaaDoor.Num Go.Proofs.YthecfboplfmdmaaDoor.Sli Go.Proofs.YthecfboplfmdmaaDoor.App Go.Proofs.YthecfboplfmdmaaDoor.CrcM Go.Proofs.YthecfboplfmdmaaDoor.Str Go.Proofs.YthecfboplfmdmaaDoor.Div Go.Proofs.YthecfboplfmdmaaDoor.Dec Go.Proofs.YthecfboplfmdmaaDoor.Blk Go.Proofs.YthecfboplfmdmaaDoor.TakS Go.Proofs.YthecfboplfmdmaaDoor.TakT Go.Proofs.YthecfboplfmdmaaDoor.RangeM Go.Proofs.YthecfboplfmdmaaDoor.ValZ Go.Proofs.YthecfboplfmdmaaDoor.ValM Go.Proofs.YthecfboplfmdmaaDoor.EncV Go.Proofs.YthecfboplfmdmaaDoor.RdM Go.Proofs.YthecfboplfmdmaaDoor.RdI Go.Proofs.YthecfboplfmdmaaDoor.RdL Go.Proofs.YthecfboplfmdmaaDoor.RdD Go.Proofs.YthecfboplfmdmaaDoor.RdS
open Go.Proofs.YthecfboplfmdmaaDoor.Byt (OwB)
open Go.Proofs.YthecfboplfmdmaaDoor.IntL (OwI)

/-- What l4Decode has read. -/
structure RW (w : World) (g : Nat) (d0 : Dv) (k : Nat) (v : Value) (gl n cap : Nat) (W : World) : Prop where
  r : RS g (rD d0 k) v W
  o : OwI w.heap.size W (.slice (some ⟨gl, 0, none⟩) n cap) (rV d0 k)
  l : Below w.heap.size w W
theorem okB_eq {xs : List Int} {n : Nat} {d0 : Dv} (h : stD xs = d0) {p q : Bool} (h1 : allB (rV d0 n) = p) (h2 : decide (vB (rV d0 n) = xs) = q) : okB xs n = (p && q) := by
  unfold okB; rw [h, h1, h2]
set_option maxRecDepth 100000 in
set_option maxHeartbeats 4000000 in
theorem l4Decode_calls (v : Value) (xs : List Int) (n : Nat) (w : World) (h : Sl .u8 w v xs) (hx : BytesL xs) (hl : xs.length ≤ 600) (hn : n ≤ 64) :
    Calls Tryd.prog 41 #[v, .int .i64 (n : Int)] w fun e w' => ∃ g cap, e = .returned (.tuple #[.slice (some ⟨g, 0, none⟩) n cap, .bool (okB xs n)]) ∧ OwI w.heap.size w' (.slice (some ⟨g, 0, none⟩) n cap) (rV (stD xs) n) ∧ Below w.heap.size w w' := by
  have HSt := hid (l3Start_calls v xs w h hx (by omega))
  obtain ⟨hd0, _⟩ := dOk.start hl hx
  have hst : stD xs = ⟨xs, 3, pull xs 0 0 3, 16777216⟩ := if_neg (by omega)
  have Hs := hid h
  have Hx := hid hx
  have HD := hid (fun k (hk : k ≤ 64) => r_ok (n := k) hd0 hk)
  have HNx := hid l4Next_calls
  obtain ⟨a, cap, rfl, _⟩ := h
  clear hd0 hx hl
  generalize pull xs 0 0 3 = p at *
  generalize hd : stD xs = d0 at *
  have Hd := hid hd
  have Hst := hid hst
  clear hd hst
  go_enter Tryd.func41, Tryd.ntmps41
  go_wp2_with fail
  refine HSt.out.mono ?_
  rintro e w1 ⟨v1, rfl, ho1, hb1⟩
  have hsz1 := hb1.size
  have HK : Hid (RW w w1.heap.size d0 0 v1 (w1.heap.size + 1) 0 0 ((w1.alloc (.cells #[v1, .int .i64 3, .int .i64 p, .int .i64 16777216] 88)).alloc (.cells #[] 2))) := by
    have hb2 := bmore (bmore hb1 (.cells #[v1, .int .i64 3, .int .i64 p, .int .i64 16777216] 88)) (.cells #[] 2)
    have hn2 := ow_new .i64 2 w.heap.size (w1.alloc (.cells #[v1, .int .i64 3, .int .i64 p, .int .i64 16777216] 88)) (by simp; omega)
    rw [World.size_alloc] at hn2
    refine ⟨?_, hn2, hb2⟩
    show RS _ d0 _ _
    rw [Hst.out]
    exact ⟨(Blk.new _ _ _).alloc _, ((ho1.mono (Nat.zero_le _)).alloc _).alloc _⟩
  obtain ⟨a1, c1, rfl, _⟩ := ho1.sl
  clear ho1 hb1 HSt
  go_wp2_with fail
  have Hgw := hid hsz1
  clear hsz1
  generalize w1.heap.size = g at *
  go_loopw [1, 7] (fun i o wr => ∃ (k gl nn cp : Nat) (v : Value), i = .int .i64 ((n - k : Nat) : Int) ∧ o = .slice (some ⟨gl, 0, none⟩) nn cp ∧ k ≤ n ∧ Hid (nn = k) ∧ Hid (RW w g d0 k v gl nn cp wr)) (fun i _ _ => (intOf i).toNat)
  case atStart => exact ⟨0, _, _, _, _, rfl, rfl, Nat.zero_le _, rfl, HK.out⟩
  case round =>
    clear HK
    obtain ⟨k, gl, nn, cp, v, rfl, rfl, hk, hnn, hK⟩ := hrel
    by_cases hlt : k < n
    · have hdk := (HD.out k (by omega)).1
      have HVk := hid (HNx.out g (rD d0 k) v (3 * k) wr hK.out.r hdk (by omega))
      have hsn := rV_snoc d0 k
      have HS1 := hid hsn.1
      have HS2 := hid hsn.2
      have hgr := hK.out.r.k.lt
      have hlr := hK.out.l.size
      have hgw : w.heap.size ≤ g := Hgw.out
      have Hyl : Hid ((rV d0 k).length = k) := rV_len _ _
      obtain ⟨mm, hm⟩ : ∃ mm, n - k = mm + 1 := ⟨n - k - 1, by omega⟩
      have Hm : Hid (n - (k + 1) = mm) := by show _ = _; omega
      have hmb : (mm : Int) ≤ 64 := by omega
      rw [hm]
      clear hdk hsn hm
      rw [← HS2.out] at HVk
      generalize uz (zN (rD d0 k)) = x at *
      go_wp2_with fail
      refine HVk.out.mono ?_
      rintro e w2 ⟨rfl, hR2, hg2⟩
      have HR2 := hid hR2
      have HO2 := hid (ow_apart hK.out.o hK.out.r.k (by decide) hg2)
      have HL2 := hid (hK.out.l.trans (below_of_grown hg2 hlr (fun i e => by cases e; exact hgw)))
      have hs2 := hg2.size
      clear hR2 hg2 HVk hK
      have HOa := hid (HO2.out.alloc (.cells #[.int .i64 x] 2))
      go_wp2_with (at_builtin; refine wpList_append_ints _ rfl _ _ rfl w.heap.size _ (rV d0 k) rfl HOa.out _ [x] rfl (sl_lit _ _ _ _ _ _ rfl rfl) (by simp) ?c1 ?c2 ?_)
      case c1 => rw [Hyl.out]; simp only [List.length_singleton]; omega
      case c2 => simp; omega
      intro g5 cap5 n5 w5 hn5 ho5 hg5
      have HK5 : Hid (RW w g d0 (k + 1) v g5 n5 cap5 w5) := by
        have hR3 := HR2.out.later (bmore (Below.refl _ _) (.cells #[.int .i64 x] 2))
        refine ⟨⟨hR3.k.kept hg5 (fun e => own_blk_ne HOa.out hR3.k (by decide) e), ow_two HOa.out hR3.o (by decide) hg5⟩, ?_, (bmore HL2.out _).trans (below_of_grown hg5 (by simp; omega) (fun i e => (HOa.out.block i e).1))⟩
        rw [HS1.out]; exact ho5
      have Hn5 : Hid (n5 = k + 1) := by show _ = _; have := Hyl.out; first | omega | (simp only [List.length_append, List.length_singleton] at hn5; omega)
      clear hn5 ho5 hg5 HOa HO2 HL2 HR2
      go_wp2
      go_roundw
      case rel => exact ⟨k + 1, g5, n5, cap5, v, (by rw [Hm.out]), rfl, by omega, Hn5.out, HK5.out⟩
      case measure => simp [intOf]
    · obtain rfl : k = n := by omega
      have hnn' := hnn.out
      subst hnn'
      rw [Nat.sub_self]
      have hA := l1All_calls
      have HA := hid (fun W (hW : Sl .i64 W (.slice (some ⟨gl, 0, none⟩) nn cp) (rV d0 nn)) => l1All_calls _ (rV d0 nn) W hW (by rw [rV_len]; omega))
      have HO := hid hK.out.o
      have HS : Below w.heap.size w wr.drew ∧ OwI w.heap.size wr.drew (.slice (some ⟨gl, 0, none⟩) nn cp) (rV d0 nn) := ⟨drewB hK.out.l, hK.out.o⟩
      clear hA hK HD HNx
      cases hall : allB (rV d0 nn)
      · have M := hid (okB_eq (q := decide (vB (rV d0 nn) = xs)) Hd.out hall rfl)
        rw [Bool.false_and] at M
        rw [hall] at HA
        clear hall
        go_wp2_with fail
        refine wp_region_noPanic ?_
        refine wp_region_held_drew (S := fun W => Below w.heap.size w W ∧ OwI w.heap.size W (.slice (some ⟨gl, 0, none⟩) nn cp) (rV d0 nn)) (by kernel_rfl) ?_ (fun hHeld => ?_)
        · assumption
        (refine wpAnyH_take (i := 0) (v := ?_) rfl (by kernel_rfl) (by kernel_rfl) (by kernel_rfl) (fun _ _ _ h => h) (Or.inl ⟨by rfl, ?_⟩) hHeld ?_; rotate_left; (intro w hSw; have hcv := run_str (Hs.out.later hSw.1); (go_simp <;> with_reducible rfl)); simp only [List.getElem_toArray, List.getElem_cons_zero, Act.put, List.setIfInBounds_toArray, List.set_cons_zero, List.set_cons_succ])
        (refine wpAnyH_take (i := 1) (v := ?_) rfl (by kernel_rfl) (by kernel_rfl) (by kernel_rfl) (fun _ _ _ h => h) (Or.inl ⟨by rfl, ?_⟩) hHeld ?_; rotate_left; (intro w hSw; have hcv := run_str (Hs.out.later hSw.1); (go_simp <;> with_reducible rfl)); simp only [List.getElem_toArray, List.getElem_cons_zero, List.getElem_cons_succ, Act.put, List.setIfInBounds_toArray, List.set_cons_zero, List.set_cons_succ])
        (refine wpAnyH_ready (rs := [2]) (by kernel_rfl) (by simp) ?_; refine AllReadyH.cons rfl (fun K hK => ?_) AllReadyH.nil; go_simp; (refine (HA.out _ hHeld.2.sl).mono ?_; rintro e w9 ⟨rfl, rfl⟩); refine hK.out _ _ ?_ (fun hHeld => ?_); (assumption); clear hK K; try dsimp only)
        (refine wpAnyH_take (i := 3) (v := ?_) rfl (by kernel_rfl) (by kernel_rfl) (by kernel_rfl) (fun _ _ _ h => h) (Or.inl ⟨by rfl, ?_⟩) hHeld ?_; rotate_left; (intro w hSw; have hcv := run_str (Hs.out.later hSw.1); (go_simp <;> with_reducible rfl)); simp only [List.getElem_toArray, List.getElem_cons_zero, List.getElem_cons_succ, Act.put, List.setIfInBounds_toArray, List.set_cons_zero, List.set_cons_succ])
        first | (refine wpAnyH_take (i := 4) (v := ?_) rfl (by kernel_rfl) (by kernel_rfl) (by kernel_rfl) (fun _ _ _ h => h) (Or.inl ⟨by rfl, ?_⟩) hHeld ?_; rotate_left; (intro w hSw; have hcv := run_str (Hs.out.later hSw.1); (go_simp <;> with_reducible rfl)); simp only [List.getElem_toArray, List.getElem_cons_zero, List.getElem_cons_succ, Act.put, List.setIfInBounds_toArray, List.set_cons_zero, List.set_cons_succ]) | (refine wpAnyH_take (i := 4) (v := undef) rfl (by kernel_rfl) (by kernel_rfl) (by kernel_rfl) (fun _ _ _ h => h) (Or.inr ⟨by rfl, rfl⟩) hHeld ?_; simp only [List.getElem_toArray, List.getElem_cons_zero, List.getElem_cons_succ, Act.put, List.setIfInBounds_toArray, List.set_cons_zero, List.set_cons_succ])
        first | (refine wpAnyH_take (i := 7) (v := ?_) rfl (by kernel_rfl) (by kernel_rfl) (by kernel_rfl) (fun _ _ _ h => h) (Or.inl ⟨by rfl, ?_⟩) hHeld ?_; rotate_left; (intro w hSw; have hcv := run_str (Hs.out.later hSw.1); (go_simp <;> with_reducible rfl)); simp only [List.getElem_toArray, List.getElem_cons_zero, List.getElem_cons_succ, Act.put, List.setIfInBounds_toArray, List.set_cons_zero, List.set_cons_succ]) | (refine wpAnyH_take (i := 7) (v := undef) rfl (by kernel_rfl) (by kernel_rfl) (by kernel_rfl) (fun _ _ _ h => h) (Or.inr ⟨by rfl, rfl⟩) hHeld ?_; simp only [List.getElem_toArray, List.getElem_cons_zero, List.getElem_cons_succ, Act.put, List.setIfInBounds_toArray, List.set_cons_zero, List.set_cons_succ])
        first | (refine wpAnyH_take (i := 8) (v := ?_) rfl (by kernel_rfl) (by kernel_rfl) (by kernel_rfl) (fun _ _ _ h => h) (Or.inl ⟨by rfl, ?_⟩) hHeld ?_; rotate_left; (intro w hSw; have hcv := run_str (Hs.out.later hSw.1); (go_simp <;> with_reducible rfl)); simp only [List.getElem_toArray, List.getElem_cons_zero, List.getElem_cons_succ, Act.put, List.setIfInBounds_toArray, List.set_cons_zero, List.set_cons_succ]) | (refine wpAnyH_take (i := 8) (v := undef) rfl (by kernel_rfl) (by kernel_rfl) (by kernel_rfl) (fun _ _ _ h => h) (Or.inr ⟨by rfl, rfl⟩) hHeld ?_; simp only [List.getElem_toArray, List.getElem_cons_zero, List.getElem_cons_succ, Act.put, List.setIfInBounds_toArray, List.set_cons_zero, List.set_cons_succ])
        first | (refine wpAnyH_take (i := 5) (v := undef) rfl (by kernel_rfl) (by kernel_rfl) (by kernel_rfl) (fun _ _ _ h => h) (Or.inr ⟨by rfl, rfl⟩) hHeld ?_; simp only [List.getElem_toArray, List.getElem_cons_zero, List.getElem_cons_succ, Act.put, List.setIfInBounds_toArray, List.set_cons_zero, List.set_cons_succ]) | (refine wpAnyH_ready (rs := [5]) (by kernel_rfl) (by simp) ?_; refine AllReadyH.cons rfl (fun K hK => ?_) AllReadyH.nil; go_simp; skip; refine hK.out _ _ ?_ (fun hHeld => ?_); (assumption); clear hK K; try dsimp only)
        first | (refine wpAnyH_take (i := 6) (v := ?_) rfl (by kernel_rfl) (by kernel_rfl) (by kernel_rfl) (fun _ _ _ h => h) (Or.inl ⟨by rfl, ?_⟩) hHeld ?_; rotate_left; (intro w hSw; have hcv := run_str (Hs.out.later hSw.1); (go_simp <;> with_reducible rfl)); simp only [List.getElem_toArray, List.getElem_cons_zero, List.getElem_cons_succ, Act.put, List.setIfInBounds_toArray, List.set_cons_zero, List.set_cons_succ]) | (refine wpAnyH_take (i := 6) (v := undef) rfl (by kernel_rfl) (by kernel_rfl) (by kernel_rfl) (fun _ _ _ h => h) (Or.inr ⟨by rfl, rfl⟩) hHeld ?_; simp only [List.getElem_toArray, List.getElem_cons_zero, List.getElem_cons_succ, Act.put, List.setIfInBounds_toArray, List.set_cons_zero, List.set_cons_succ])
        first | (refine wpAnyH_take (i := 9) (v := ?_) rfl (by kernel_rfl) (by kernel_rfl) (by kernel_rfl) (fun _ _ _ h => h) (Or.inl ⟨by rfl, ?_⟩) hHeld ?_; rotate_left; (intro w hSw; have hcv := run_str (Hs.out.later hSw.1); (go_simp <;> with_reducible rfl)); simp only [List.getElem_toArray, List.getElem_cons_zero, List.getElem_cons_succ, Act.put, List.setIfInBounds_toArray, List.set_cons_zero, List.set_cons_succ]) | (refine wpAnyH_take (i := 9) (v := undef) rfl (by kernel_rfl) (by kernel_rfl) (by kernel_rfl) (fun _ _ _ h => h) (Or.inr ⟨by rfl, rfl⟩) hHeld ?_; simp only [List.getElem_toArray, List.getElem_cons_zero, List.getElem_cons_succ, Act.put, List.setIfInBounds_toArray, List.set_cons_zero, List.set_cons_succ])
        (refine wpAnyH_take (i := 10) (v := ?_) rfl (by kernel_rfl) (by kernel_rfl) (by kernel_rfl) (fun _ _ _ h => h) (Or.inl ⟨by rfl, ?_⟩) hHeld ?_; rotate_left; (intro w hSw; have hcv := run_str (Hs.out.later hSw.1); (go_simp <;> with_reducible rfl)); simp only [List.getElem_toArray, List.getElem_cons_zero, List.getElem_cons_succ, Act.put, List.setIfInBounds_toArray, List.set_cons_zero, List.set_cons_succ])
        (refine wpAnyH_take (i := 11) (v := ?_) rfl (by kernel_rfl) (by kernel_rfl) (by kernel_rfl) (fun _ _ _ h => h) (Or.inl ⟨by rfl, ?_⟩) hHeld ?_; rotate_left; (intro w hSw; have hcv := run_str (Hs.out.later hSw.1); (go_simp <;> with_reducible rfl)); simp only [List.getElem_toArray, List.getElem_cons_zero, List.getElem_cons_succ, Act.put, List.setIfInBounds_toArray, List.set_cons_zero, List.set_cons_succ])
        (refine wpAnyH_take (i := 12) (v := ?_) rfl (by kernel_rfl) (by kernel_rfl) (by kernel_rfl) (fun _ _ _ h => h) (Or.inl ⟨by rfl, ?_⟩) hHeld ?_; rotate_left; (intro w hSw; have hcv := run_str (Hs.out.later hSw.1); (go_simp <;> with_reducible rfl)); simp only [List.getElem_toArray, List.getElem_cons_zero, List.getElem_cons_succ, Act.put, List.setIfInBounds_toArray, List.set_cons_zero, List.set_cons_succ])
        refine wpAnyH_done (by kernel_rfl) ?_ _
        refine NoPanic.normal ?_
        have HF := hid hHeld
        clear hHeld HS HA HO
        go_wp2
        go_ret2
        exact ⟨gl, cp, by rw [M.out]; rfl, HF.out.2, HF.out.1⟩
      · have hE := hid (fun W (hW : Sl .i64 W (.slice (some ⟨gl, 0, none⟩) nn cp) (rV d0 nn)) => l4Encode_calls _ (rV d0 nn) W hW (by rw [rV_len]; omega) hall)
        have hseq := str_eq (vB (rV d0 nn)) xs (encL_bd _) Hx.out
        cases heq : decide (vB (rV d0 nn) = xs)
        all_goals
          have M := hid (okB_eq Hd.out hall heq)
          rw [Bool.true_and] at M
          rw [hall] at HA
          rw [heq] at hseq
          clear hall heq
          generalize vB (rV d0 nn) = ys at *
          go_wp2_with fail
          refine wp_region_noPanic ?_
          refine wp_region_held_drew (S := fun W => Below w.heap.size w W ∧ OwI w.heap.size W (.slice (some ⟨gl, 0, none⟩) nn cp) (rV d0 nn)) (by kernel_rfl) ?_ (fun hHeld => ?_)
          · first | exact hK' | exact hHeld | assumption
          (refine wpAnyH_take (i := 0) (v := ?_) rfl (by kernel_rfl) (by kernel_rfl) (by kernel_rfl) (fun _ _ _ h => h) (Or.inl ⟨by rfl, ?_⟩) hHeld ?_; rotate_left; (intro w hSw; have hcv := run_str (Hs.out.later hSw.1); (go_simp <;> with_reducible rfl)); simp only [List.getElem_toArray, List.getElem_cons_zero, Act.put, List.setIfInBounds_toArray, List.set_cons_zero, List.set_cons_succ])
          (refine wpAnyH_take (i := 1) (v := ?_) rfl (by kernel_rfl) (by kernel_rfl) (by kernel_rfl) (fun _ _ _ h => h) (Or.inl ⟨by rfl, ?_⟩) hHeld ?_; rotate_left; (intro w hSw; have hcv := run_str (Hs.out.later hSw.1); (go_simp <;> with_reducible rfl)); simp only [List.getElem_toArray, List.getElem_cons_zero, List.getElem_cons_succ, Act.put, List.setIfInBounds_toArray, List.set_cons_zero, List.set_cons_succ])
          (refine wpAnyH_ready (rs := [2]) (by kernel_rfl) (by simp) ?_; refine AllReadyH.cons rfl (fun K hK => ?_) AllReadyH.nil; go_simp; (refine (HA.out _ hHeld.2.sl).mono ?_; rintro e w9 ⟨rfl, rfl⟩); refine hK.out _ _ ?_ (fun hHeld => ?_); (first | exact hK' | exact hHeld | assumption); clear hK K; try dsimp only)
          (refine wpAnyH_take (i := 3) (v := ?_) rfl (by kernel_rfl) (by kernel_rfl) (by kernel_rfl) (fun _ _ _ h => h) (Or.inl ⟨by rfl, ?_⟩) hHeld ?_; rotate_left; (intro w hSw; have hcv := run_str (Hs.out.later hSw.1); (go_simp <;> with_reducible rfl)); simp only [List.getElem_toArray, List.getElem_cons_zero, List.getElem_cons_succ, Act.put, List.setIfInBounds_toArray, List.set_cons_zero, List.set_cons_succ])
          first | (refine wpAnyH_take (i := 4) (v := ?_) rfl (by kernel_rfl) (by kernel_rfl) (by kernel_rfl) (fun _ _ _ h => h) (Or.inl ⟨by rfl, ?_⟩) hHeld ?_; rotate_left; (intro w hSw; have hcv := run_str (Hs.out.later hSw.1); (go_simp <;> with_reducible rfl)); simp only [List.getElem_toArray, List.getElem_cons_zero, List.getElem_cons_succ, Act.put, List.setIfInBounds_toArray, List.set_cons_zero, List.set_cons_succ]) | (refine wpAnyH_take (i := 4) (v := undef) rfl (by kernel_rfl) (by kernel_rfl) (by kernel_rfl) (fun _ _ _ h => h) (Or.inr ⟨by rfl, rfl⟩) hHeld ?_; simp only [List.getElem_toArray, List.getElem_cons_zero, List.getElem_cons_succ, Act.put, List.setIfInBounds_toArray, List.set_cons_zero, List.set_cons_succ])
          first | (refine wpAnyH_take (i := 7) (v := ?_) rfl (by kernel_rfl) (by kernel_rfl) (by kernel_rfl) (fun _ _ _ h => h) (Or.inl ⟨by rfl, ?_⟩) hHeld ?_; rotate_left; (intro w hSw; have hcv := run_str (Hs.out.later hSw.1); (go_simp <;> with_reducible rfl)); simp only [List.getElem_toArray, List.getElem_cons_zero, List.getElem_cons_succ, Act.put, List.setIfInBounds_toArray, List.set_cons_zero, List.set_cons_succ]) | (refine wpAnyH_take (i := 7) (v := undef) rfl (by kernel_rfl) (by kernel_rfl) (by kernel_rfl) (fun _ _ _ h => h) (Or.inr ⟨by rfl, rfl⟩) hHeld ?_; simp only [List.getElem_toArray, List.getElem_cons_zero, List.getElem_cons_succ, Act.put, List.setIfInBounds_toArray, List.set_cons_zero, List.set_cons_succ])
          first | (refine wpAnyH_take (i := 8) (v := ?_) rfl (by kernel_rfl) (by kernel_rfl) (by kernel_rfl) (fun _ _ _ h => h) (Or.inl ⟨by rfl, ?_⟩) hHeld ?_; rotate_left; (intro w hSw; have hcv := run_str (Hs.out.later hSw.1); (go_simp <;> with_reducible rfl)); simp only [List.getElem_toArray, List.getElem_cons_zero, List.getElem_cons_succ, Act.put, List.setIfInBounds_toArray, List.set_cons_zero, List.set_cons_succ]) | (refine wpAnyH_take (i := 8) (v := undef) rfl (by kernel_rfl) (by kernel_rfl) (by kernel_rfl) (fun _ _ _ h => h) (Or.inr ⟨by rfl, rfl⟩) hHeld ?_; simp only [List.getElem_toArray, List.getElem_cons_zero, List.getElem_cons_succ, Act.put, List.setIfInBounds_toArray, List.set_cons_zero, List.set_cons_succ])
          first | (refine wpAnyH_take (i := 5) (v := undef) rfl (by kernel_rfl) (by kernel_rfl) (by kernel_rfl) (fun _ _ _ h => h) (Or.inr ⟨by rfl, rfl⟩) hHeld ?_; simp only [List.getElem_toArray, List.getElem_cons_zero, List.getElem_cons_succ, Act.put, List.setIfInBounds_toArray, List.set_cons_zero, List.set_cons_succ]) | (refine wpAnyH_ready (rs := [5]) (by kernel_rfl) (by simp) ?_; refine AllReadyH.cons rfl (fun K hK => ?_) AllReadyH.nil; go_simp; (refine (hE.out _ hHeld.2.sl).mono ?_; rintro e w10 ⟨g1, c1, rfl, ho1, hb1⟩; have hK' := And.intro (bthen hHeld.1 hb1) (hHeld.2.later hb1)); refine hK.out _ _ ?_ (fun hHeld => ?_); (first | exact hK' | exact hHeld | assumption); clear hK K; try dsimp only)
          refine wpAnyH_more (S' := fun W => (Below w.heap.size w W ∧ OwI w.heap.size W (.slice (some ⟨gl, 0, none⟩) nn cp) (rV d0 nn)) ∧ Sl .u8 W (.slice (some ⟨g1, 0, none⟩) ys.length c1) ys) (fun _ h => h.1) _ _ _ _ ?_
          replace hHeld := And.intro hHeld ho1.sl
          first | (refine wpAnyH_take (i := 6) (v := ?_) rfl (by kernel_rfl) (by kernel_rfl) (by kernel_rfl) (fun _ _ _ h => h) (Or.inl ⟨by rfl, ?_⟩) hHeld ?_; rotate_left; (intro w hSw; (have hcv := run_str (Hs.out.later hSw.1.1); have hcv2 := run_str hSw.2); (go_simp <;> with_reducible rfl)); simp only [List.getElem_toArray, List.getElem_cons_zero, List.getElem_cons_succ, Act.put, List.setIfInBounds_toArray, List.set_cons_zero, List.set_cons_succ]) | (refine wpAnyH_take (i := 6) (v := undef) rfl (by kernel_rfl) (by kernel_rfl) (by kernel_rfl) (fun _ _ _ h => h) (Or.inr ⟨by rfl, rfl⟩) hHeld ?_; simp only [List.getElem_toArray, List.getElem_cons_zero, List.getElem_cons_succ, Act.put, List.setIfInBounds_toArray, List.set_cons_zero, List.set_cons_succ])
          first | (refine wpAnyH_take (i := 9) (v := ?_) rfl (by kernel_rfl) (by kernel_rfl) (by kernel_rfl) (fun _ _ _ h => h) (Or.inl ⟨by rfl, ?_⟩) hHeld ?_; rotate_left; (intro w hSw; (have hcv := run_str (Hs.out.later hSw.1.1); have hcv2 := run_str hSw.2); (go_simp <;> with_reducible rfl)); simp only [List.getElem_toArray, List.getElem_cons_zero, List.getElem_cons_succ, Act.put, List.setIfInBounds_toArray, List.set_cons_zero, List.set_cons_succ]) | (refine wpAnyH_take (i := 9) (v := undef) rfl (by kernel_rfl) (by kernel_rfl) (by kernel_rfl) (fun _ _ _ h => h) (Or.inr ⟨by rfl, rfl⟩) hHeld ?_; simp only [List.getElem_toArray, List.getElem_cons_zero, List.getElem_cons_succ, Act.put, List.setIfInBounds_toArray, List.set_cons_zero, List.set_cons_succ])
          (refine wpAnyH_take (i := 10) (v := ?_) rfl (by kernel_rfl) (by kernel_rfl) (by kernel_rfl) (fun _ _ _ h => h) (Or.inl ⟨by rfl, ?_⟩) hHeld ?_; rotate_left; (intro w hSw; (have hcv := run_str (Hs.out.later hSw.1.1); have hcv2 := run_str hSw.2); (go_simp <;> with_reducible rfl)); simp only [List.getElem_toArray, List.getElem_cons_zero, List.getElem_cons_succ, Act.put, List.setIfInBounds_toArray, List.set_cons_zero, List.set_cons_succ])
          (refine wpAnyH_take (i := 11) (v := ?_) rfl (by kernel_rfl) (by kernel_rfl) (by kernel_rfl) (fun _ _ _ h => h) (Or.inl ⟨by rfl, ?_⟩) hHeld ?_; rotate_left; (intro w hSw; (have hcv := run_str (Hs.out.later hSw.1.1); have hcv2 := run_str hSw.2); (go_simp <;> with_reducible rfl)); simp only [List.getElem_toArray, List.getElem_cons_zero, List.getElem_cons_succ, Act.put, List.setIfInBounds_toArray, List.set_cons_zero, List.set_cons_succ])
          (refine wpAnyH_take (i := 12) (v := ?_) rfl (by kernel_rfl) (by kernel_rfl) (by kernel_rfl) (fun _ _ _ h => h) (Or.inl ⟨by rfl, ?_⟩) hHeld ?_; rotate_left; (intro w hSw; (have hcv := run_str (Hs.out.later hSw.1.1); have hcv2 := run_str hSw.2); (go_simp <;> with_reducible rfl)); simp only [List.getElem_toArray, List.getElem_cons_zero, List.getElem_cons_succ, Act.put, List.setIfInBounds_toArray, List.set_cons_zero, List.set_cons_succ])
          refine wpAnyH_done (by kernel_rfl) ?_ _
          refine NoPanic.normal ?_
          have HF := hid hHeld.1
          clear hHeld HS HA HO hE hseq hK' ho1 hb1
          go_wp2
          go_ret2
          exact ⟨gl, cp, by rw [M.out]; rfl, HF.out.2, HF.out.1⟩
set_option maxHeartbeats 2000000 in
theorem specDecV_calls (v : Value) (xs : List Int) (n : Int) (w : World) (h : Sl .u8 w v xs) (hx : BytesL xs) (hm : xs.length ≤ 1048576) :
    Calls Tryd.prog 12 #[v, .int .i64 n] w fun e w' => ∃ u, e = .returned (.agg #[.int .i64 (deC xs n), u]) ∧ OwI w.heap.size w' u (deL xs n) ∧ Below w.heap.size w w' := by
  have HN := hid (Blk.new w #[.int .i64 0, .slice none 0 0] 32)
  have HB := hid (bmore (Below.refl w.heap.size w) (.cells #[.int .i64 0, .slice none 0 0] 32))
  have Hs := hid (h.later HB.out)
  obtain ⟨a, cap, rfl, _⟩ := h
  by_cases hmany : 600 < xs.length
  · obtain ⟨m1, m2⟩ := de_many (n := n) hmany
    have M1 := hid m1
    have M2 := hid m2
    clear m1 m2
    have hI : (600 : Int) < (xs.length : Int) := by omega
    have HL := hid (bmore (Below.refl w.heap.size w) (.cells #[.int .i64 2, .slice none 0 0] 32))
    go_enter Tryd.func12, Tryd.ntmps12
    go_wp2
    exact bodyPost_ret (v := .agg #[.int .i64 2, .slice none 0 0]) (by simp [results, Tryd.results12, go_sem]) rfl ⟨_, by rw [M1.out], by rw [M2.out]; exact ⟨rfl, .inl ⟨rfl, rfl⟩⟩, HL.out⟩
  · have hI : (xs.length : Int) ≤ 600 := by omega
    cases hin : inB 0 64 n
    · obtain ⟨m1, m2⟩ := de_range hmany hin
      have M1 := hid m1
      have M2 := hid m2
      clear m1 m2
      have HL := hid (bmore (Below.refl w.heap.size w) (.cells #[.int .i64 3, .slice none 0 0] 32))
      go_enter Tryd.func12, Tryd.ntmps12
      go_wp2_with (go_at_call 40; refine (l1In_calls _ _ _ _).mono ?_; rintro e w' ⟨rfl, rfl⟩; simp only [hin])
      exact bodyPost_ret (v := .agg #[.int .i64 3, .slice none 0 0]) (by simp [results, Tryd.results12, go_sem]) rfl ⟨_, by rw [M1.out], by rw [M2.out]; exact ⟨rfl, .inl ⟨rfl, rfl⟩⟩, HL.out⟩
    · obtain ⟨b1, b2⟩ := of_inB hin
      obtain ⟨k, rfl⟩ := Int.eq_ofNat_of_zero_le b1
      have HRd := hid (l4Decode_calls _ xs k _ Hs.out hx (by omega) (by omega))
      rw [World.size_alloc] at HRd
      cases hok : okB xs k
      · obtain ⟨m1, m2⟩ := de_bad hmany hin (show okB xs (k : Int).toNat = false by rw [Int.toNat_natCast]; exact hok)
        have M1 := hid m1
        have M2 := hid m2
        rw [hok] at HRd
        clear m1 m2 hok b1 b2
        go_enter Tryd.func12, Tryd.ntmps12
        go_wp2_with (first | (go_at_call 40; refine (l1In_calls _ _ _ _).mono ?_; rintro e w' ⟨rfl, rfl⟩; simp only [hin]) | fail)
        refine HRd.out.mono ?_
        rintro e w1 ⟨g1, c1, rfl, ho, hb⟩
        have HZ := hid (HN.out.below hb (by omega))
        obtain ⟨z0, z1, f0, f1⟩ := HZ.out.two
        have HL := hid (below_set2 (HB.out.trans (hb.mono (by omega))) (.int .i64 5) (.slice none 0 0))
        have HE := hid ((HZ.out.set 0 (.int .i64 5)).set 1 (.slice none 0 0))
        clear hb HRd ho
        go_wp2
        obtain ⟨y0, y1, _⟩ := HE.out.two
        exact bodyPost_ret (v := .agg #[.int .i64 5, .slice none 0 0]) (by simp [results, Tryd.results12, go_sem, y0, y1]) rfl ⟨_, by rw [M1.out], by rw [M2.out]; exact ⟨rfl, .inl ⟨rfl, rfl⟩⟩, HL.out⟩
      · obtain ⟨m1, m2⟩ := de_ok hmany hin (show okB xs (k : Int).toNat = true by rw [Int.toNat_natCast]; exact hok)
        rw [Int.toNat_natCast] at m2
        have M1 := hid m1
        have M2 := hid m2
        rw [hok] at HRd
        clear m1 m2 hok b1 b2
        go_enter Tryd.func12, Tryd.ntmps12
        go_wp2_with (first | (go_at_call 40; refine (l1In_calls _ _ _ _).mono ?_; rintro e w' ⟨rfl, rfl⟩; simp only [hin]) | fail)
        refine HRd.out.mono ?_
        rintro e w1 ⟨g1, c1, rfl, ho, hb⟩
        have HZ := hid (HN.out.below hb (by omega))
        obtain ⟨z0, z1, f0, f1⟩ := HZ.out.two
        have HO := hid (Ow.set2 ho (.int .i64 0) (.slice (some ⟨g1, 0, none⟩) k c1))
        have HL := hid (below_set2 (HB.out.trans (hb.mono (by omega))) (.int .i64 0) (.slice (some ⟨g1, 0, none⟩) k c1))
        have HE := hid ((HZ.out.set 0 (.int .i64 0)).set 1 (.slice (some ⟨g1, 0, none⟩) k c1))
        clear hb HRd ho
        go_wp2
        obtain ⟨y0, y1, _⟩ := HE.out.two
        exact bodyPost_ret (v := .agg #[.int .i64 0, .slice (some ⟨g1, 0, none⟩) k c1]) (by simp [results, Tryd.results12, go_sem, y0, y1]) rfl ⟨_, by rw [M1.out], by rw [M2.out]; exact HO.out, HL.out⟩
end Go.Proofs.YthecfboplfmdmaaDoor.RdT
