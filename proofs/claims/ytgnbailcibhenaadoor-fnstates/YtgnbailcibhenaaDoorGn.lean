/- Synths that are drawn and bent. || Synths and coefficients that are drawn, right ones and bent ones. -/
import Derived.Test.YtgnbailcibhenaaDoorGm
namespace Go.Proofs.YtgnbailcibhenaaDoor.DrwI
open Go.ChangeShapes Go.WideShapes Go.ChangeAt Go.RowKit Go.Proofs.YtgnbailcibhenaaDoor.Num Go.Proofs.YtgnbailcibhenaaDoor.Sli Go.Proofs.YtgnbailcibhenaaDoor.App Go.Proofs.YtgnbailcibhenaaDoor.Samp Go.Proofs.YtgnbailcibhenaaDoor.SampF Go.Proofs.YtgnbailcibhenaaDoor.Blk Go.Proofs.YtgnbailcibhenaaDoor.TurM Go.Proofs.YtgnbailcibhenaaDoor.LapM Go.Proofs.YtgnbailcibhenaaDoor.LapN Go.Proofs.YtgnbailcibhenaaDoor.IntL Go.Proofs.YtgnbailcibhenaaDoor.LapS Go.Proofs.YtgnbailcibhenaaDoor.LapU Go.Proofs.YtgnbailcibhenaaDoor.Src Go.Proofs.YtgnbailcibhenaaDoor.Lists Go.Proofs.YtgnbailcibhenaaDoor.Samples Go.Proofs.YtgnbailcibhenaaDoor.Draws Go.Proofs.YtgnbailcibhenaaDoor.DrwF

set_option maxRecDepth 100000 in
set_option maxHeartbeats 4000000 in
theorem l7BentSynth_calls (w0 w : World) (g : Nat) (a : Option Addr) (cap : Nat) (bs : List Int) (at' : Nat) (h : Src w0 w g a cap bs at') (hat : at' ≤ 4000) :
    Calls Tryd.prog 60 #[.pointer (some ⟨g, 0, none⟩)] w fun e w' => ∃ s u t half rest at2, e = .returned (.agg #[.int .i64 s, u, t]) ∧ Sx w.heap.size w' u half ∧ Sx w.heap.size w' t rest ∧ Fits u ∧ Fits t ∧ (half.length ≤ 16 ∧ rest.length ≤ 16 ∧ -1000 ≤ s ∧ s ≤ 1000) ∧ at2 ≤ at' + 140 ∧ Src w0 w' g a cap bs at2 ∧ w.grownBy w' (some g) := by
  have hgw := src_lt h
  have hw0g : w0.heap.size ≤ g := h.1
  have hb0 := bmore (Below.refl _ w) (.cells #[.int .i64 0, .slice none 0 0, .slice none 0 0] 34)
  have HS0 := hid (src_grown (row := none) h (grown_below hb0) (fun _ e => by cases e))
  have HR0 := hid (Blk.new w #[.int .i64 0, .slice none 0 0, .slice none 0 0] 34)
  have HG0 := hid (grown_below (r := some g) hb0)
  have hsz0 : (w.alloc (.cells #[.int .i64 0, .slice none 0 0, .slice none 0 0] 34)).heap.size = w.heap.size + 1 := World.size_alloc _ _
  clear h hb0
  go_enter Tryd.func60, Tryd.ntmps60
  go_wp2_with fail
  generalize w.alloc (.cells #[.int .i64 0, .slice none 0 0, .slice none 0 0] 34) = w1 at *
  refine (DrwH.l7Synth_calls w0 _ g a cap bs _ HS0.out (by omega)).mono ?_
  rintro e w2 ⟨s, u, t, half, rest, at2, rfl, hc, ht, hat2, hs2, hg2⟩
  obtain ⟨hz, l1, l2, -, -⟩ := sy_ok hc
  obtain ⟨-, e1, e2, e3, e4, e5⟩ := sz_nat hz
  have hsb : -1000 ≤ s ∧ s ≤ 1000 := by omega
  obtain ⟨gh, c1, rfl⟩ := ow_some ht.s (by intro e; rw [e] at l1; simp at l1; omega)
  obtain ⟨gr, c2, rfl⟩ := ow_some ht.d (by intro e; rw [e] at l2; simp at l2; omega)
  have hm2 : 2 ≤ hN s ∧ hN s ≤ 8 := by omega
  have hc1 : half.length ≤ c1 := ht.s.fits
  rw [l1] at ht hc1 ⊢
  rw [l2] at ht ⊢
  have Hl1 := hid l1
  have Hl2 := hid l2
  have hnhr : gh ≠ gr := by intro e; exact ht.ne gh rfl (by rw [e]; rfl)
  generalize hN s = m at *
  have HD3 : Hid (LD w0 w g a cap bs w.heap.size w2.heap.size s (.slice (some ⟨gh, 0, none⟩) m c1) (.slice (some ⟨gr, 0, none⟩) m c2) half rest at2 34 (w2.alloc (.cells #[.int .i64 s, .slice (some ⟨gh, 0, none⟩) m c1, .slice (some ⟨gr, 0, none⟩) m c2] 34))) := by
    have ha := bmore (Below.refl w2.heap.size w2) (.cells #[.int .i64 s, .slice (some ⟨gh, 0, none⟩) m c1, .slice (some ⟨gr, 0, none⟩) m c2] 34)
    have hz2 := hg2.size
    exact ⟨(HR0.out.kept hg2 (by simp; omega)).later ha, Blk.new _ _ _, (ht.later ha).mono (by omega), src_grown (row := none) hs2 (grown_below ha) (fun _ e => by cases e), grown_same (grown_same HG0.out hg2) (grown_below ha), by omega, Nat.le_refl _, by omega, hgw⟩
  have hz2 : w.heap.size < w2.heap.size := by have := hg2.size; omega
  have hLh : gh < w2.heap.size ∧ gr < w2.heap.size ∧ w.heap.size < gh ∧ w.heap.size < gr := by have h1 := ht.s.block gh rfl; have h2 := ht.d.block gr rfl; omega
  have Hat0 := hid hat2
  clear ht hs2 hg2 HS0 HR0 HG0 hc hz l1 l2 e1 e2 e3 e4 e5 hat2
  go_wp2_with fail
  generalize (w2.alloc (.cells #[.int .i64 s, .slice (some ⟨gh, 0, none⟩) m c1, .slice (some ⟨gr, 0, none⟩) m c2] 34)) = w3 at *
  generalize w2.heap.size = L at *
  refine (l1Next_calls w0 _ g a cap bs _ 14 HD3.out.src (by have := Hat0.out; omega) (by omega) (by omega)).mono ?_
  rintro e W ⟨r, rfl, hr0, hr14, hs4, hg4⟩
  have HD := hid (HD3.out.next hs4 hg4)
  have Hat1 : Hid (at2 + 1 ≤ at' + 135) := by show _ ≤ _; have := Hat0.out; omega
  clear hs4 hg4 HD3 Hat0
  by_cases k0 : r = 0
  · subst k0
    clear hr0 hr14
    go_wp2_with fail
    refine (l1BentSize_calls w0 _ g a cap bs _ HD.out.src (by have := Hat1.out; omega)).mono ?_
    rintro e W2 ⟨r2, rfl, hr2, hs5, hg5⟩
    have HD5 := hid (HD.out.next hs5 hg5)
    have Hat : Hid (at2 + 1 + 1 ≤ at' + 140) := by show _ ≤ _; have := Hat1.out; omega
    have hr2b : -1000 ≤ r2 ∧ r2 ≤ 1000 := by
      simp only [List.mem_cons, List.not_mem_nil, or_false] at hr2
      rcases hr2 with rfl | rfl | rfl | rfl | rfl | rfl | rfl | rfl | rfl | rfl | rfl | rfl | rfl | rfl | rfl <;> omega
    obtain ⟨l0, l1, l2, lf0, lf1, lf2⟩ := HD5.out.l.three
    obtain ⟨r0, r1, r2', f0, f1, f2⟩ := HD5.out.r.three
    have hne := HD5.out.ne
    have HDw := hid (HD5.out.one r2 (fun j e => by simp [Value.ownBlock] at e; omega) (by omega))
    clear hs5 hg5 HD hr2 HD5
    have HG := hid (grown_set3 (W2.setCell ⟨L, 0, none⟩ (.int .i64 r2)) w.heap.size (.int .i64 r2) (.slice (some ⟨gh, 0, none⟩) m c1) (.slice (some ⟨gr, 0, none⟩) m c2))
    have HT := hid (HDw.out.tw.over (Nat.lt_succ_self _) HG.out)
    have HSr := hid (src_grown HDw.out.src HG.out (fun j e => by cases e; omega))
    have HGr : Hid (w.grownBy ((((W2.setCell ⟨L, 0, none⟩ (.int .i64 r2)).setCell ⟨w.heap.size, 0, none⟩ (.int .i64 r2)).setCell ⟨w.heap.size, 1, none⟩ (.slice (some ⟨gh, 0, none⟩) m c1)).setCell ⟨w.heap.size, 2, none⟩ (.slice (some ⟨gr, 0, none⟩) m c2)) (some g)) :=
      ⟨HDw.out.k.os, HDw.out.k.tape, HDw.out.k.output, Nat.le_trans HDw.out.k.size HG.out.size, fun j hj hne => by rw [HG.out.block j (Nat.lt_of_lt_of_le hj HDw.out.k.size) (by simp; omega), HDw.out.k.block j hj hne]⟩
    clear HDw HG
    go_wp2
    exact bodyPost_ret (v := .agg #[.int .i64 r2, (.slice (some ⟨gh, 0, none⟩) m c1), (.slice (some ⟨gr, 0, none⟩) m c2)]) (by simp [results, Tryd.results60, go_sem, r0, r1, r2']) rfl ⟨_, _, _, half, rest, _, rfl, (Sx.of HT.out.s).mono (Nat.le_succ _), (Sx.of HT.out.d).mono (Nat.le_succ _), HT.out.s.fits, HT.out.d.fits, (by have := Hl1.out; have := Hl2.out; omega), Hat.out, HSr.out, HGr.out⟩
  · have b0 : (r == 0) = false := by simpa using k0
    by_cases k1 : r = 1
    · subst k1
      clear hr0 hr14 b0 k0
      have Hat : Hid (at2 + 1 ≤ at' + 140) := by show _ ≤ _; have := Hat1.out; omega
      obtain ⟨l0, l1, l2, lf0, lf1, lf2⟩ := HD.out.l.three
      have hlL := HD.out.l.lt
      have HDa := hid (HD.out.later (bmore (Below.refl _ W) (.cells #[.int .i64 0] 2)))
      have hsW := HD.out.k.size
      clear HD
      go_wp2_with (at_builtin; refine IntA.wpList_append_ints _ rfl _ _ rfl (w.heap.size + 1) _ rest rfl HDa.out.tw.d _ [0] rfl (sl_lit _ _ _ _ _ _ rfl rfl) (by simp) ?c1 ?c2 ?_)
      case c1 => rw [Hl2.out]; simp only [List.length_singleton]; omega
      case c2 => simp; omega
      intro g5 c5 n5 w5 hn5 ho5 hg5 hat5
      have hn5' : n5 = m + 1 := by have := Hl2.out; first | omega | (simp only [List.length_append, List.length_singleton] at hn5; omega)
      have hsA : (W.alloc (.cells #[.int .i64 0] 2)).heap.size = W.heap.size + 1 := World.size_alloc _ _
      have hg5L : g5 ≠ L ∧ w.heap.size < g5 := by
        rcases hat5 with h | h
        · have : gr = g5 := by simpa [Value.ownBlock] using h
          omega
        · omega
      have hL5 := HDa.out.l.kept hg5 (by simp [Value.ownBlock]; omega)
      have hR5 := HDa.out.r.kept hg5 (by simp [Value.ownBlock]; omega)
      have hS5 := IntA.Ow.keptNe HDa.out.tw.s hg5 (fun j e => by simp [Value.ownBlock] at e ⊢; omega)
      have hq5 := src_grown HDa.out.src hg5 (fun j e => by simp [Value.ownBlock] at e; omega)
      have hk5 := DrwH.far_k HDa.out.k (show w.heap.size ≤ gr by omega) hg5
      rw [hn5'] at ho5 ⊢
      have hgL := grown_set w5 L 2 (.slice (some ⟨g5, 0, none⟩) (m + 1) c5)
      have hgR := grown_set3 (w5.setCell ⟨L, 2, none⟩ (.slice (some ⟨g5, 0, none⟩) (m + 1) c5)) w.heap.size (.int .i64 s) (.slice (some ⟨gh, 0, none⟩) m c1) (.slice (some ⟨g5, 0, none⟩) (m + 1) c5)
      have HS6 := hid ((IntA.Ow.keptNe hS5 hgL (fun j e => by cases e; simp [Value.ownBlock]; omega)).over (Nat.lt_succ_self _) hgR)
      have HT6 := hid ((IntA.Ow.keptNe ho5 hgL (fun j e => by cases e; simp [Value.ownBlock]; omega)).over (Nat.lt_succ_self _) hgR)
      have HSr := hid (src_grown (src_grown hq5 hgL (fun j e => by cases e; omega)) hgR (fun j e => by cases e; omega))
      have HGr := hid (DrwH.far_k (DrwH.far_k hk5 (show w.heap.size ≤ L by omega) hgL) (Nat.le_refl _) hgR)
      obtain ⟨l0', l1', l2', lf0', lf1', lf2'⟩ := hL5.three
      obtain ⟨r0, r1, r2', f0, f1, f2⟩ := hR5.three
      have hne : w.heap.size ≠ L := by omega
      clear HDa hn5 hn5' ho5 hg5 hat5 hL5 hR5 hS5 hq5 hk5 hgL hgR l0 l1 l2 lf0 lf1 lf2
      go_wp2
      exact bodyPost_ret (v := .agg #[.int .i64 s, (.slice (some ⟨gh, 0, none⟩) m c1), (.slice (some ⟨g5, 0, none⟩) (m + 1) c5)]) (by simp [results, Tryd.results60, go_sem, r0, r1, r2']) rfl ⟨_, _, _, half, rest ++ [0], _, rfl, (Sx.of HS6.out).mono (Nat.le_succ _), (Sx.of HT6.out).mono (Nat.le_succ _), HS6.out.fits, HT6.out.fits, (by have := Hl1.out; have := Hl2.out; simp only [List.length_append, List.length_singleton]; omega), Hat.out, HSr.out, HGr.out⟩
    · have b1 : (r == 1) = false := by simpa using k1
      by_cases k2 : r = 2
      · subst k2
        clear b0 b1 k0 k1
        clear hr0 hr14
        have hS0 : W.drew.cell? ⟨L, 1, none⟩ = some (.slice (some ⟨gh, 0, none⟩) m c1) := HD.out.l.three.2.1
        have HDd := hid (HD.out.drew.later (bmore (Below.refl _ W.drew) (.cells #[.int .i64 1073741824, .int .i64 (-1073741824), .int .i64 1073741825] 2)))
        have hS1 : (W.alloc (.cells #[.int .i64 1073741824, .int .i64 (-1073741824), .int .i64 1073741825] 2)).drew.cell? ⟨L, 1, none⟩ = some (.slice (some ⟨gh, 0, none⟩) m c1) := HDd.out.l.three.2.1
        have Hat : Hid (at2 + 1 + 1 ≤ at' + 140) := by show _ ≤ _; have := Hat1.out; omega
        have hmI : 0 < m := by omega
        go_wp2_with fail
        refine wp_region_noPanic ?_
        refine wp_region_held_drew (S := fun V => V.cell? ⟨L, 1, none⟩ = some (.slice (some ⟨gh, 0, none⟩) m c1)) (by kernel_rfl) (by first | exact hS3 | exact hS2 | exact hS1 | exact hS0) (fun hHeld => ?_)
        (refine wpAnyH_take (i := 0) (v := ?_) rfl (by kernel_rfl) (by kernel_rfl) (by kernel_rfl) (fun _ _ _ h => h) (Or.inl ⟨by rfl, ?_⟩) hHeld ?_; rotate_left; (intro w hSw; (have s0 := hSw); (go_simp <;> with_reducible rfl)); simp only [List.getElem_toArray, List.getElem_cons_zero, Act.put, List.setIfInBounds_toArray, List.set_cons_zero, List.set_cons_succ])
        (refine wpAnyH_take (i := 1) (v := ?_) rfl (by kernel_rfl) (by kernel_rfl) (by kernel_rfl) (fun _ _ _ h => h) (Or.inl ⟨by rfl, ?_⟩) hHeld ?_; rotate_left; (intro w hSw; (have s0 := hSw); (go_simp <;> with_reducible rfl)); simp only [List.getElem_toArray, List.getElem_cons_zero, List.getElem_cons_succ, Act.put, List.setIfInBounds_toArray, List.set_cons_zero, List.set_cons_succ])
        (refine wpAnyH_take (i := 2) (v := ?_) rfl (by kernel_rfl) (by kernel_rfl) (by kernel_rfl) (fun _ _ _ h => h) (Or.inl ⟨by rfl, ?_⟩) hHeld ?_; rotate_left; (intro w hSw; (have s0 := hSw); (go_simp <;> with_reducible rfl)); simp only [List.getElem_toArray, List.getElem_cons_zero, List.getElem_cons_succ, Act.put, List.setIfInBounds_toArray, List.set_cons_zero, List.set_cons_succ])
        refine wpAnyH_ready (rs := [3]) (by kernel_rfl) (by simp) ?_
        refine (AllReadyH.cons rfl (fun K hK => ?_) AllReadyH.nil)
        go_simp
        skip
        refine hK.out _ _ (by first | exact hS3 | exact hS2 | exact hS1 | exact hS0) (fun hHeld => ?_)
        clear hK K
        try simp only [List.getElem_toArray, List.getElem_cons_zero, List.getElem_cons_succ, Act.put, List.setIfInBounds_toArray, List.set_cons_zero, List.set_cons_succ]
        refine wpAnyH_ready (rs := [4]) (by kernel_rfl) (by simp) ?_
        refine (AllReadyH.cons rfl (fun K hK => ?_) AllReadyH.nil)
        go_simp
        (refine (l1Pick_lit w0 W.drew g a cap bs _ 3 2 [1073741824, -1073741824, 1073741825] _ HD.out.drew.src (by have := Hat1.out; omega) rfl rfl (by omega) (by omega)).mono ?_; rintro e W9 ⟨x, rfl, _, hs9, hg9⟩; have hD9 := HDd.out.next hs9 hg9; have hS2 := hD9.l.three.2.1; obtain ⟨cc, cf⟩ := App.Ow.cellAt hD9.tw.s Hl1.out.symm 0 (by rw [Hl1.out]; omega); have hD10 := hD9.setS Hl1.out 0 x (by omega) (by omega) hnhr (by omega))
        refine hK.out _ _ (by first | exact hS3 | exact hS2 | exact hS1 | exact hS0) (fun hHeld => ?_)
        clear hK K
        try dsimp only
        (refine wpAnyH_take (i := 5) (v := ?_) rfl (by kernel_rfl) (by kernel_rfl) (by kernel_rfl) (fun _ _ _ h => h) (Or.inl ⟨by rfl, ?_⟩) hHeld ?_; rotate_left; (intro w hSw; (have s0 := hSw); (go_simp <;> with_reducible rfl)); simp only [List.getElem_toArray, List.getElem_cons_zero, List.getElem_cons_succ, Act.put, List.setIfInBounds_toArray, List.set_cons_zero, List.set_cons_succ])
        refine wpAnyH_ready (rs := [6]) (by kernel_rfl) (by simp) ?_
        refine (AllReadyH.cons rfl (fun K hK => ?_) AllReadyH.nil)
        go_simp
        (have hS3 := hD10.l.three.2.1)
        refine hK.out _ _ (by first | exact hS3 | exact hS2 | exact hS1 | exact hS0) (fun hHeld => ?_)
        clear hK K
        try simp only [List.getElem_toArray, List.getElem_cons_zero, List.getElem_cons_succ, Act.put, List.setIfInBounds_toArray, List.set_cons_zero, List.set_cons_succ]
        refine wpAnyH_done (by kernel_rfl) ?_ _
        refine NoPanic.normal ?_
        have HDw := hid hD10
        clear hD9 hD10 hS0 hS1 hS2 hS3 HDd HD cc cf hg9 hs9
        have HG := hid (grown_set3 (W9.setCell ⟨gh, 0, none⟩ (.int .i64 x)) w.heap.size (.int .i64 s) (.slice (some ⟨gh, 0, none⟩) m c1) (.slice (some ⟨gr, 0, none⟩) m c2))
        have HT := hid (HDw.out.tw.over (Nat.lt_succ_self _) HG.out)
        have HSr := hid (src_grown HDw.out.src HG.out (fun j e => by cases e; omega))
        have HGr : Hid (w.grownBy ((((W9.setCell ⟨gh, 0, none⟩ (.int .i64 x)).setCell ⟨w.heap.size, 0, none⟩ (.int .i64 s)).setCell ⟨w.heap.size, 1, none⟩ (.slice (some ⟨gh, 0, none⟩) m c1)).setCell ⟨w.heap.size, 2, none⟩ (.slice (some ⟨gr, 0, none⟩) m c2)) (some g)) := ⟨HDw.out.k.os, HDw.out.k.tape, HDw.out.k.output, Nat.le_trans HDw.out.k.size HG.out.size, fun j hj hne => by rw [HG.out.block j (Nat.lt_of_lt_of_le hj HDw.out.k.size) (by simp; omega), HDw.out.k.block j hj hne]⟩
        obtain ⟨l0, l1, l2, lf0, lf1, lf2⟩ := HDw.out.l.three
        obtain ⟨r0, r1, r2', f0, f1, f2⟩ := HDw.out.r.three
        clear HDw HG
        go_wp2
        exact bodyPost_ret (v := .agg #[.int .i64 s, (.slice (some ⟨gh, 0, none⟩) m c1), (.slice (some ⟨gr, 0, none⟩) m c2)]) (by simp [results, Tryd.results60, go_sem, r0, r1, r2']) rfl ⟨_, _, _, (half.set 0 x), rest, _, rfl, (Sx.of HT.out.s).mono (Nat.le_succ _), (Sx.of HT.out.d).mono (Nat.le_succ _), HT.out.s.fits, HT.out.d.fits, (by have := Hl1.out; have := Hl2.out; simp only [List.length_set]; omega), Hat.out, HSr.out, HGr.out⟩
      · have b2 : (r == 2) = false := by simpa using k2
        by_cases k3 : r = 3
        · subst k3
          clear b0 b1 b2 k0 k1 k2
          clear hr0 hr14
          have hS0 : W.drew.cell? ⟨L, 2, none⟩ = some (.slice (some ⟨gr, 0, none⟩) m c2) := HD.out.l.three.2.2.1
          have HDd := hid (HD.out.drew.later (bmore (Below.refl _ W.drew) (.cells #[.int .i64 268435456, .int .i64 (-268435456), .int .i64 (-268435457)] 2)))
          have hS1 : (W.alloc (.cells #[.int .i64 268435456, .int .i64 (-268435456), .int .i64 (-268435457)] 2)).drew.cell? ⟨L, 2, none⟩ = some (.slice (some ⟨gr, 0, none⟩) m c2) := HDd.out.l.three.2.2.1
          have Hat : Hid (at2 + 1 + 1 ≤ at' + 140) := by show _ ≤ _; have := Hat1.out; omega
          have hmI : 0 < m := by omega
          go_wp2_with fail
          refine wp_region_noPanic ?_
          refine wp_region_held_drew (S := fun V => V.cell? ⟨L, 2, none⟩ = some (.slice (some ⟨gr, 0, none⟩) m c2)) (by kernel_rfl) (by first | exact hS3 | exact hS2 | exact hS1 | exact hS0) (fun hHeld => ?_)
          (refine wpAnyH_take (i := 0) (v := ?_) rfl (by kernel_rfl) (by kernel_rfl) (by kernel_rfl) (fun _ _ _ h => h) (Or.inl ⟨by rfl, ?_⟩) hHeld ?_; rotate_left; (intro w hSw; (have s0 := hSw); (go_simp <;> with_reducible rfl)); simp only [List.getElem_toArray, List.getElem_cons_zero, Act.put, List.setIfInBounds_toArray, List.set_cons_zero, List.set_cons_succ])
          (refine wpAnyH_take (i := 1) (v := ?_) rfl (by kernel_rfl) (by kernel_rfl) (by kernel_rfl) (fun _ _ _ h => h) (Or.inl ⟨by rfl, ?_⟩) hHeld ?_; rotate_left; (intro w hSw; (have s0 := hSw); (go_simp <;> with_reducible rfl)); simp only [List.getElem_toArray, List.getElem_cons_zero, List.getElem_cons_succ, Act.put, List.setIfInBounds_toArray, List.set_cons_zero, List.set_cons_succ])
          (refine wpAnyH_take (i := 2) (v := ?_) rfl (by kernel_rfl) (by kernel_rfl) (by kernel_rfl) (fun _ _ _ h => h) (Or.inl ⟨by rfl, ?_⟩) hHeld ?_; rotate_left; (intro w hSw; (have s0 := hSw); (go_simp <;> with_reducible rfl)); simp only [List.getElem_toArray, List.getElem_cons_zero, List.getElem_cons_succ, Act.put, List.setIfInBounds_toArray, List.set_cons_zero, List.set_cons_succ])
          refine wpAnyH_ready (rs := [3]) (by kernel_rfl) (by simp) ?_
          refine (AllReadyH.cons rfl (fun K hK => ?_) AllReadyH.nil)
          go_simp
          skip
          refine hK.out _ _ (by first | exact hS3 | exact hS2 | exact hS1 | exact hS0) (fun hHeld => ?_)
          clear hK K
          try simp only [List.getElem_toArray, List.getElem_cons_zero, List.getElem_cons_succ, Act.put, List.setIfInBounds_toArray, List.set_cons_zero, List.set_cons_succ]
          refine wpAnyH_ready (rs := [4]) (by kernel_rfl) (by simp) ?_
          refine (AllReadyH.cons rfl (fun K hK => ?_) AllReadyH.nil)
          go_simp
          (refine (l1Pick_lit w0 W.drew g a cap bs _ 3 2 [268435456, -268435456, -268435457] _ HD.out.drew.src (by have := Hat1.out; omega) rfl rfl (by omega) (by omega)).mono ?_; rintro e W9 ⟨x, rfl, _, hs9, hg9⟩; have hD9 := HDd.out.next hs9 hg9; have hS2 := hD9.l.three.2.2.1; obtain ⟨cc, cf⟩ := App.Ow.cellAt hD9.tw.d Hl2.out.symm 0 (by rw [Hl2.out]; omega); have hD10 := hD9.setD Hl2.out 0 x (by omega) (by omega) hnhr (by omega))
          refine hK.out _ _ (by first | exact hS3 | exact hS2 | exact hS1 | exact hS0) (fun hHeld => ?_)
          clear hK K
          try dsimp only
          (refine wpAnyH_take (i := 5) (v := ?_) rfl (by kernel_rfl) (by kernel_rfl) (by kernel_rfl) (fun _ _ _ h => h) (Or.inl ⟨by rfl, ?_⟩) hHeld ?_; rotate_left; (intro w hSw; (have s0 := hSw); (go_simp <;> with_reducible rfl)); simp only [List.getElem_toArray, List.getElem_cons_zero, List.getElem_cons_succ, Act.put, List.setIfInBounds_toArray, List.set_cons_zero, List.set_cons_succ])
          refine wpAnyH_ready (rs := [6]) (by kernel_rfl) (by simp) ?_
          refine (AllReadyH.cons rfl (fun K hK => ?_) AllReadyH.nil)
          go_simp
          (have hS3 := hD10.l.three.2.2.1)
          refine hK.out _ _ (by first | exact hS3 | exact hS2 | exact hS1 | exact hS0) (fun hHeld => ?_)
          clear hK K
          try simp only [List.getElem_toArray, List.getElem_cons_zero, List.getElem_cons_succ, Act.put, List.setIfInBounds_toArray, List.set_cons_zero, List.set_cons_succ]
          refine wpAnyH_done (by kernel_rfl) ?_ _
          refine NoPanic.normal ?_
          have HDw := hid hD10
          clear hD9 hD10 hS0 hS1 hS2 hS3 HDd HD cc cf hg9 hs9
          have HG := hid (grown_set3 (W9.setCell ⟨gr, 0, none⟩ (.int .i64 x)) w.heap.size (.int .i64 s) (.slice (some ⟨gh, 0, none⟩) m c1) (.slice (some ⟨gr, 0, none⟩) m c2))
          have HT := hid (HDw.out.tw.over (Nat.lt_succ_self _) HG.out)
          have HSr := hid (src_grown HDw.out.src HG.out (fun j e => by cases e; omega))
          have HGr : Hid (w.grownBy ((((W9.setCell ⟨gr, 0, none⟩ (.int .i64 x)).setCell ⟨w.heap.size, 0, none⟩ (.int .i64 s)).setCell ⟨w.heap.size, 1, none⟩ (.slice (some ⟨gh, 0, none⟩) m c1)).setCell ⟨w.heap.size, 2, none⟩ (.slice (some ⟨gr, 0, none⟩) m c2)) (some g)) := ⟨HDw.out.k.os, HDw.out.k.tape, HDw.out.k.output, Nat.le_trans HDw.out.k.size HG.out.size, fun j hj hne => by rw [HG.out.block j (Nat.lt_of_lt_of_le hj HDw.out.k.size) (by simp; omega), HDw.out.k.block j hj hne]⟩
          obtain ⟨l0, l1, l2, lf0, lf1, lf2⟩ := HDw.out.l.three
          obtain ⟨r0, r1, r2', f0, f1, f2⟩ := HDw.out.r.three
          clear HDw HG
          go_wp2
          exact bodyPost_ret (v := .agg #[.int .i64 s, (.slice (some ⟨gh, 0, none⟩) m c1), (.slice (some ⟨gr, 0, none⟩) m c2)]) (by simp [results, Tryd.results60, go_sem, r0, r1, r2']) rfl ⟨_, _, _, half, (rest.set 0 x), _, rfl, (Sx.of HT.out.s).mono (Nat.le_succ _), (Sx.of HT.out.d).mono (Nat.le_succ _), HT.out.s.fits, HT.out.d.fits, (by have := Hl1.out; have := Hl2.out; simp only [List.length_set]; omega), Hat.out, HSr.out, HGr.out⟩
        · have b3 : (r == 3) = false := by simpa using k3
          clear k0 k1 k2 k3
          have Hat : Hid (at2 + 1 ≤ at' + 140) := by show _ ≤ _; have := Hat1.out; omega
          have HDw := HD
          clear HD
          have HG := hid (grown_set3 W w.heap.size (.int .i64 s) (.slice (some ⟨gh, 0, none⟩) m c1) (.slice (some ⟨gr, 0, none⟩) m c2))
          have HT := hid (HDw.out.tw.over (Nat.lt_succ_self _) HG.out)
          have HSr := hid (src_grown HDw.out.src HG.out (fun j e => by cases e; omega))
          have HGr : Hid (w.grownBy (((W.setCell ⟨w.heap.size, 0, none⟩ (.int .i64 s)).setCell ⟨w.heap.size, 1, none⟩ (.slice (some ⟨gh, 0, none⟩) m c1)).setCell ⟨w.heap.size, 2, none⟩ (.slice (some ⟨gr, 0, none⟩) m c2)) (some g)) :=
            ⟨HDw.out.k.os, HDw.out.k.tape, HDw.out.k.output, Nat.le_trans HDw.out.k.size HG.out.size, fun j hj hne => by rw [HG.out.block j (Nat.lt_of_lt_of_le hj HDw.out.k.size) (by simp; omega), HDw.out.k.block j hj hne]⟩
          obtain ⟨l0, l1, l2, lf0, lf1, lf2⟩ := HDw.out.l.three
          obtain ⟨r0, r1, r2', f0, f1, f2⟩ := HDw.out.r.three
          clear HDw HG
          go_wp2
          exact bodyPost_ret (v := .agg #[.int .i64 s, (.slice (some ⟨gh, 0, none⟩) m c1), (.slice (some ⟨gr, 0, none⟩) m c2)]) (by simp [results, Tryd.results60, go_sem, r0, r1, r2']) rfl ⟨_, _, _, half, rest, _, rfl, (Sx.of HT.out.s).mono (Nat.le_succ _), (Sx.of HT.out.d).mono (Nat.le_succ _), HT.out.s.fits, HT.out.d.fits, (by have := Hl1.out; have := Hl2.out; omega), Hat.out, HSr.out, HGr.out⟩
end Go.Proofs.YtgnbailcibhenaaDoor.DrwI

namespace Go.Proofs.YtgnbailcibhenaaDoor.DrwJ
open Go.ChangeShapes Go.WideShapes Go.ChangeAt Go.RowKit Go.Proofs.YtgnbailcibhenaaDoor.Num Go.Proofs.YtgnbailcibhenaaDoor.Sli Go.Proofs.YtgnbailcibhenaaDoor.App Go.Proofs.YtgnbailcibhenaaDoor.Samp Go.Proofs.YtgnbailcibhenaaDoor.Blk Go.Proofs.YtgnbailcibhenaaDoor.LapM Go.Proofs.YtgnbailcibhenaaDoor.LapN Go.Proofs.YtgnbailcibhenaaDoor.IntL Go.Proofs.YtgnbailcibhenaaDoor.LapS Go.Proofs.YtgnbailcibhenaaDoor.Src Go.Proofs.YtgnbailcibhenaaDoor.Lists Go.Proofs.YtgnbailcibhenaaDoor.Samples Go.Proofs.YtgnbailcibhenaaDoor.Draws Go.Proofs.YtgnbailcibhenaaDoor.DrwF

/-- A list in a block from B on and below U. -/
def Sy (B U : Nat) (w : World) (v : Value) (xs : List Int) : Prop :=
  ∃ a cap, v = .slice a xs.length cap ∧ (xs ≠ [] → ∃ b off, a = some ⟨b, off, none⟩ ∧ B ≤ b ∧ b < U ∧ b < w.heap.size ∧ ∀ i, i < xs.length → w.cell? ⟨b, off + i, none⟩ = some (.int .i64 (xs.getD i 0)))
theorem Sy.of {B : Nat} {w : World} {v : Value} {xs : List Int} (h : Sx B w v xs) : Sy B w.heap.size w v xs := by
  obtain ⟨a, cap, rfl, hc⟩ := h
  exact ⟨a, cap, rfl, fun hne => by obtain ⟨b, off, rfl, h1, h2, h3⟩ := hc hne; exact ⟨b, off, rfl, h1, h2, h2, h3⟩⟩
theorem Sy.sl {B U : Nat} {w : World} {v : Value} {xs : List Int} (h : Sy B U w v xs) : Sl .i64 w v xs := by
  obtain ⟨a, cap, rfl, hc⟩ := h
  exact ⟨a, cap, rfl, fun hne => by obtain ⟨b, off, rfl, _, _, h2, h3⟩ := hc hne; exact ⟨b, off, rfl, h2, h3⟩⟩
theorem Sy.kept {B U : Nat} {w w' : World} {v : Value} {xs : List Int} {r : Option Nat} (h : Sy B U w v xs) (hg : w.grownBy w' r) (hr : ∀ j, r = some j → j < B ∨ U ≤ j) : Sy B U w' v xs := by
  obtain ⟨a, cap, rfl, hc⟩ := h
  refine ⟨a, cap, rfl, fun hne => ?_⟩
  obtain ⟨b, off, rfl, h1, hu, h2, h3⟩ := hc hne
  have hb : w'.heap[b]? = w.heap[b]? := hg.block b h2 (fun e => by have := hr b e.symm; omega)
  exact ⟨b, off, rfl, h1, hu, Nat.lt_of_lt_of_le h2 hg.size, fun i hi => by rw [← h3 i hi]; simp only [World.cell?, hb]⟩
/-- What the draw keeps: the synth's block, its lists, the source. -/
structure PB (w1 : World) (g : Nat) (a : Option Addr) (cap : Nat) (bs : List Int) (L B : Nat) (s : Int) (u t : Value) (head tail : List Int) (at' : Nat) (W : World) : Prop where
  l : Blk W L #[.int .i64 s, u, t] 34
  su : Sy B L W u head
  st : Sy B L W t tail
  src : Src w1 W g a cap bs at'
  ng : L ≠ g ∧ g < B
section
variable {w1 W W' : World} {g : Nat} {a : Option Addr} {cap : Nat} {bs : List Int} {L B : Nat} {s : Int} {u t : Value} {head tail : List Int} {at' at2 : Nat}
theorem PB.next (h : PB w1 g a cap bs L B s u t head tail at' W) (hs : Src w1 W' g a cap bs at2) (hg : W.grownBy W' (some g)) : PB w1 g a cap bs L B s u t head tail at2 W' :=
  have h1 := h.ng
  ⟨h.l.kept hg (by simp; omega), h.su.kept hg (fun j e => by cases e; exact .inl h1.2), h.st.kept hg (fun j e => by cases e; exact .inl h1.2), hs, h1⟩
theorem PB.later (h : PB w1 g a cap bs L B s u t head tail at' W) (hb : Below W.heap.size W W') : PB w1 g a cap bs L B s u t head tail at' W' :=
  h.next (src_grown (row := none) h.src (grown_below hb) (fun _ e => by cases e)) (grown_below hb)
end
set_option maxRecDepth 100000 in
set_option maxHeartbeats 4000000 in
theorem drawPlay_calls (a : Option Addr) (cap : Nat) (bs : List Int) (w : World) (hsl : Sl .u8 w (.slice a bs.length cap) bs) (hbd : ∀ x ∈ bs, 0 ≤ x ∧ x ≤ 255) (hlen : bs.length ≤ 1048576) :
    Calls Tryd.prog 17 #[.slice a bs.length cap] w fun e w' => ∃ s u t head tail f co, e = .returned (.tuple #[.agg #[.int .i64 s, u, t], f]) ∧ Sl .i64 w' u head ∧ Sl .i64 w' t tail ∧ Sl .i64 w' f co ∧ Fits u ∧ Fits t ∧ Fits f ∧ (head.length ≤ 16 ∧ tail.length ≤ 16 ∧ co.length ≤ 21) ∧ Below w.heap.size w w' := by
  have hb0 := bmore (Below.refl _ w) (.cells #[.int .i64 0, .slice none 0 0, .slice none 0 0] 34)
  have HS := hid (l1Source_calls a cap bs (w.alloc (.cells #[.int .i64 0, .slice none 0 0, .slice none 0 0] 34)) (w.alloc (.cells #[.int .i64 0, .slice none 0 0, .slice none 0 0] 34)) (Below.refl _ _) (hsl.later hb0) hbd hlen)
  have HR := hid (Blk.new w #[.int .i64 0, .slice none 0 0, .slice none 0 0] 34)
  have HB := hid hb0
  have hsz0 : (w.alloc (.cells #[.int .i64 0, .slice none 0 0, .slice none 0 0] 34)).heap.size = w.heap.size + 1 := World.size_alloc _ _
  clear hsl hbd hlen hb0
  go_enter Tryd.func17, Tryd.ntmps17
  go_wp2_with fail
  generalize w.alloc (.cells #[.int .i64 0, .slice none 0 0, .slice none 0 0] 34) = w1 at *
  refine HS.out.mono ?_
  rintro e w2 ⟨g, rfl, hs2, hz2⟩
  have Hs2 := hid hs2
  clear hs2 HS
  have hg2 := src_lt Hs2.out
  have hgw : w1.heap.size ≤ g := Hs2.out.1
  go_wp2_with fail
  refine (DrwI.l7BentSynth_calls w1 _ g a cap bs _ Hs2.out (by omega)).mono ?_
  rintro e w3 ⟨s, u, t, head, tail, at2, rfl, hu, ht, fu, ft, hl, hat2, hs3, hg3⟩
  obtain ⟨au, cu, rfl, -⟩ := id hu
  obtain ⟨av, cv, rfl, -⟩ := id ht
  have ha := bmore (Below.refl w3.heap.size w3) (.cells #[.int .i64 s, .slice au head.length cu, .slice av tail.length cv] 34)
  have hz3 := hg3.size
  have HP4 : Hid (PB w1 g a cap bs w3.heap.size w2.heap.size s (.slice au head.length cu) (.slice av tail.length cv) head tail at2 (w3.alloc (.cells #[.int .i64 s, .slice au head.length cu, .slice av tail.length cv] 34))) :=
    ⟨Blk.new _ _ _, (Sy.of hu).kept (grown_below (r := none) ha) (fun _ e => by cases e), (Sy.of ht).kept (grown_below (r := none) ha) (fun _ e => by cases e), src_grown (row := none) hs3 (grown_below ha) (fun _ e => by cases e), by omega⟩
  have Hf := hid (And.intro fu ft)
  have Hl := hid (And.intro hl.1 hl.2.1)
  have hsb := hl.2.2
  have Hat := hid hat2
  have hLw : w1.heap.size < w3.heap.size := by omega
  clear hu ht fu ft hl hat2 hs3 hg3 ha Hs2
  obtain ⟨l0, l1, l2, _⟩ := HP4.out.l.three
  go_wp2_with fail
  generalize (w3.alloc (.cells #[.int .i64 s, .slice au head.length cu, .slice av tail.length cv] 34)) = w4 at *
  generalize w3.heap.size = L at *
  refine (l1Max_calls s 0 _).mono ?_
  rintro e w' ⟨rfl, rfl⟩
  go_wp2_with fail
  refine (l1Min_calls (max s 0) 20 _).mono ?_
  rintro e w' ⟨rfl, rfl⟩
  obtain ⟨n, hn, hn20⟩ : ∃ n : Nat, min (max s 0) 20 = (n : Int) ∧ n ≤ 20 := ⟨(min (max s 0) 20).toNat, by omega, by omega⟩
  rw [hn]
  clear hn
  go_wp2_with fail
  refine (l1Pick_lit w1 _ g a cap bs _ 3 2 [9, 4000, 200000] _ HP4.out.src (by have := Hat.out; omega) rfl rfl (by omega) (by omega)).mono ?_
  rintro e w5 ⟨q, rfl, hq, hs5, hg5⟩
  have hq0 : 0 ≤ q ∧ q ≤ 1000000 := by simp at hq; omega
  have HP5 := hid ((HP4.out.later (bmore (Below.refl _ w') (.cells #[.int .i64 9, .int .i64 4000, .int .i64 200000] 2))).next hs5 hg5)
  clear hs5 hg5 hq HP4 l0 l1 l2
  go_wp2_with fail
  refine (l1DrawList_calls w1 _ g a cap bs _ n q HP5.out.src (by have := Hat.out; omega) (by omega) (by omega) (by omega)).mono ?_
  rintro e w6 ⟨gl, cl, ys, rfl, ho6, hyn, _, hs6, hg6⟩
  have ho6' : OwI w5.heap.size w6 (.slice (some ⟨gl, 0, none⟩) ys.length cl) ys := ho6
  have HP6 := hid (HP5.out.next hs6 hg6)
  have hBF : w1.heap.size < w5.heap.size ∧ g < w5.heap.size ∧ L < w5.heap.size := by have h1 := src_lt HP5.out.src; have h2 := HP5.out.l.lt; omega
  have Hyn := hid hyn
  have HO6 := hid ho6'
  rw [hyn] at HO6 ⊢
  clear ho6 ho6' hyn hs6 hg6 HP5 hq0
  generalize w5.heap.size = BF at *
  go_wp2_with fail
  refine (l1Next_calls w1 _ g a cap bs _ 12 HP6.out.src (by have := Hat.out; omega) (by omega) (by omega)).mono ?_
  rintro e W ⟨r, rfl, hr0, hr12, hs7, hg7⟩
  have HP7 := hid (HP6.out.next hs7 hg7)
  have HO7 := hid (HO6.out.kept hg7 (fun j e => by cases e; exact hBF.2.1))
  have hgl := HO7.out.block gl rfl
  clear hs7 hg7 HP6 HO6
  by_cases k0 : r = 0
  · subst k0
    clear hr0 hr12
    have HPa := hid (HP7.out.later (bmore (Below.refl _ W) (.cells #[.int .i64 0] 2)))
    have HOa := hid (HO7.out.alloc (.cells #[.int .i64 0] 2))
    clear HP7 HO7
    go_wp2_with (at_builtin; refine IntA.wpList_append_ints _ rfl _ _ rfl BF _ ys rfl HOa.out _ [0] rfl (sl_lit _ _ _ _ _ _ rfl rfl) (by simp) ?c1 ?c2 ?_)
    case c1 => rw [Hyn.out]; simp only [List.length_singleton]; omega
    case c2 => simp; omega
    intro g8 c8 n8 w8 hn8 ho8 hg8 hat8
    have hn8' : n8 = n + 1 := by have := Hyn.out; first | omega | (simp only [List.length_append, List.length_singleton] at hn8; omega)
    rw [hn8'] at ho8 ⊢
    have HPw : Hid (PB w1 g a cap bs L w2.heap.size s (.slice au head.length cu) (.slice av tail.length cv) head tail (at2 + 1 + n + 1) w8) :=
      ⟨HPa.out.l.kept hg8 (by simp [Value.ownBlock]; omega), HPa.out.su.kept hg8 (fun j e => by simp [Value.ownBlock] at e; omega), HPa.out.st.kept hg8 (fun j e => by simp [Value.ownBlock] at e; omega), src_grown HPa.out.src hg8 (fun j e => by simp [Value.ownBlock] at e; omega), HPa.out.ng⟩
    have HFw := hid ho8
    clear ho8 hg8 hat8 hn8 hn8' HPa HOa
    obtain ⟨l0, l1, l2, _⟩ := HPw.out.l.three
    obtain ⟨r0, r1, r2, f0, f1, f2⟩ := (HR.out.later HPw.out.src.2.1).three
    have hgR := grown_set3 w8 w.heap.size (.int .i64 s) (.slice au head.length cu) (.slice av tail.length cv)
    have HU10 := hid (HPw.out.su.kept hgR (fun j e => by cases e; omega)).sl
    have HT10 := hid (HPw.out.st.kept hgR (fun j e => by cases e; omega)).sl
    have HF10 := hid (HFw.out.over (show w.heap.size < BF by omega) hgR)
    have HB10 := hid (below_cell (below_cell (below_cell (bthen HB.out HPw.out.src.2.1) (Nat.le_refl _) 0 (.int .i64 s)) (Nat.le_refl _) 1 (.slice au head.length cu)) (Nat.le_refl _) 2 (.slice av tail.length cv))
    clear HPw HFw hgR
    go_wp2
    exact bodyPost_ret (v := .tuple #[.agg #[.int .i64 s, .slice au head.length cu, .slice av tail.length cv], (.slice (some ⟨g8, 0, none⟩) (n + 1) c8)]) (by simp [results, Tryd.results17, go_sem, r0, r1, r2]) rfl ⟨_, _, _, head, tail, _, ys ++ [0], rfl, HU10.out, HT10.out, HF10.out.sl, Hf.out.1, Hf.out.2, HF10.out.fits, ⟨Hl.out.1, Hl.out.2, (by have := Hyn.out; simp only [List.length_append, List.length_singleton]; omega)⟩, HB10.out⟩
  · have b0 : (r == 0) = false := by simpa using k0
    by_cases k1 : r = 1
    · subst k1
      clear hr0 hr12 k0 b0
      by_cases hp : 0 < n
      · have hpI : (0 : Int) < (n : Int) := by omega
        have HPa := hid (HP7.out.later (bmore (Below.refl _ W) (.cells #[.int .i64 16777216, .int .i64 (-16777216), .int .i64 16777217] 2)))
        go_wp2_with fail
        refine (l1Pick_lit w1 _ g a cap bs _ 3 2 [16777216, -16777216, 16777217] _ HP7.out.src (by have := Hat.out; omega) rfl rfl (by omega) (by omega)).mono ?_
        rintro e w8 ⟨x, rfl, _, hs8, hg8⟩
        have HP8 := hid (HPa.out.next hs8 hg8)
        have HO8 := hid ((HO7.out.alloc (.cells #[.int .i64 16777216, .int .i64 (-16777216), .int .i64 16777217] 2)).kept hg8 (fun j e => by cases e; exact hBF.2.1))
        obtain ⟨cc, cf⟩ := App.Ow.cellAt HO8.out Hyn.out.symm 0 (by rw [Hyn.out]; exact hp)
        have hst := App.Ow.set HO8.out Hyn.out.symm 0 x
        have HFw := hid hst.1
        have HPw : Hid (PB w1 g a cap bs L w2.heap.size s (.slice au head.length cu) (.slice av tail.length cv) head tail (at2 + 1 + n + 1 + 1) (w8.setCell ⟨gl, 0, none⟩ (.int .i64 x))) :=
          ⟨HP8.out.l.kept hst.2 (by simp; omega), HP8.out.su.kept hst.2 (fun j e => by cases e; omega), HP8.out.st.kept hst.2 (fun j e => by cases e; omega), src_grown HP8.out.src hst.2 (fun j e => by cases e; omega), HP8.out.ng⟩
        clear hs8 hg8 hst HP8 HO8 HPa HP7 HO7
        obtain ⟨l0, l1, l2, _⟩ := HPw.out.l.three
        obtain ⟨r0, r1, r2, f0, f1, f2⟩ := (HR.out.later HPw.out.src.2.1).three
        have hgR := grown_set3 (w8.setCell ⟨gl, 0, none⟩ (.int .i64 x)) w.heap.size (.int .i64 s) (.slice au head.length cu) (.slice av tail.length cv)
        have HU10 := hid (HPw.out.su.kept hgR (fun j e => by cases e; omega)).sl
        have HT10 := hid (HPw.out.st.kept hgR (fun j e => by cases e; omega)).sl
        have HF10 := hid (HFw.out.over (show w.heap.size < BF by omega) hgR)
        have HB10 := hid (below_cell (below_cell (below_cell (bthen HB.out HPw.out.src.2.1) (Nat.le_refl _) 0 (.int .i64 s)) (Nat.le_refl _) 1 (.slice au head.length cu)) (Nat.le_refl _) 2 (.slice av tail.length cv))
        clear HPw HFw hgR
        go_wp2
        exact bodyPost_ret (v := .tuple #[.agg #[.int .i64 s, .slice au head.length cu, .slice av tail.length cv], (.slice (some ⟨gl, 0, none⟩) n cl)]) (by simp [results, Tryd.results17, go_sem, r0, r1, r2]) rfl ⟨_, _, _, head, tail, _, ys.set 0 x, rfl, HU10.out, HT10.out, HF10.out.sl, Hf.out.1, Hf.out.2, HF10.out.fits, ⟨Hl.out.1, Hl.out.2, (by have := Hyn.out; rw [List.length_set]; omega)⟩, HB10.out⟩
      · obtain rfl : n = 0 := by omega
        have HPw := HP7
        have HFw := HO7
        clear HP7 HO7
        obtain ⟨l0, l1, l2, _⟩ := HPw.out.l.three
        obtain ⟨r0, r1, r2, f0, f1, f2⟩ := (HR.out.later HPw.out.src.2.1).three
        have hgR := grown_set3 W w.heap.size (.int .i64 s) (.slice au head.length cu) (.slice av tail.length cv)
        have HU10 := hid (HPw.out.su.kept hgR (fun j e => by cases e; omega)).sl
        have HT10 := hid (HPw.out.st.kept hgR (fun j e => by cases e; omega)).sl
        have HF10 := hid (HFw.out.over (show w.heap.size < BF by omega) hgR)
        have HB10 := hid (below_cell (below_cell (below_cell (bthen HB.out HPw.out.src.2.1) (Nat.le_refl _) 0 (.int .i64 s)) (Nat.le_refl _) 1 (.slice au head.length cu)) (Nat.le_refl _) 2 (.slice av tail.length cv))
        clear HPw HFw hgR
        go_wp2
        exact bodyPost_ret (v := .tuple #[.agg #[.int .i64 s, .slice au head.length cu, .slice av tail.length cv], (.slice (some ⟨gl, 0, none⟩) 0 cl)]) (by simp [results, Tryd.results17, go_sem, r0, r1, r2]) rfl ⟨_, _, _, head, tail, _, ys, rfl, HU10.out, HT10.out, HF10.out.sl, Hf.out.1, Hf.out.2, HF10.out.fits, ⟨Hl.out.1, Hl.out.2, (by have := Hyn.out; omega)⟩, HB10.out⟩
    · have b1 : (r == 1) = false := by simpa using k1
      have HPw := HP7
      have HFw := HO7
      clear HP7 HO7 k0 k1
      obtain ⟨l0, l1, l2, _⟩ := HPw.out.l.three
      obtain ⟨r0, r1, r2, f0, f1, f2⟩ := (HR.out.later HPw.out.src.2.1).three
      have hgR := grown_set3 W w.heap.size (.int .i64 s) (.slice au head.length cu) (.slice av tail.length cv)
      have HU10 := hid (HPw.out.su.kept hgR (fun j e => by cases e; omega)).sl
      have HT10 := hid (HPw.out.st.kept hgR (fun j e => by cases e; omega)).sl
      have HF10 := hid (HFw.out.over (show w.heap.size < BF by omega) hgR)
      have HB10 := hid (below_cell (below_cell (below_cell (bthen HB.out HPw.out.src.2.1) (Nat.le_refl _) 0 (.int .i64 s)) (Nat.le_refl _) 1 (.slice au head.length cu)) (Nat.le_refl _) 2 (.slice av tail.length cv))
      clear HPw HFw hgR
      go_wp2
      exact bodyPost_ret (v := .tuple #[.agg #[.int .i64 s, .slice au head.length cu, .slice av tail.length cv], (.slice (some ⟨gl, 0, none⟩) n cl)]) (by simp [results, Tryd.results17, go_sem, r0, r1, r2]) rfl ⟨_, _, _, head, tail, _, ys, rfl, HU10.out, HT10.out, HF10.out.sl, Hf.out.1, Hf.out.2, HF10.out.fits, ⟨Hl.out.1, Hl.out.2, (by have := Hyn.out; omega)⟩, HB10.out⟩
end Go.Proofs.YtgnbailcibhenaaDoor.DrwJ
