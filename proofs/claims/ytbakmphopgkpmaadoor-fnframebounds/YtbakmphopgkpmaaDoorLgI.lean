/- PlayBlock of the program: what it tells at every argument of lists of at most 1048576 numbers. Condition: the table of turns. -/
import Derived.Test.YtbakmphopgkpmaaDoorLfI
import Derived.Deep.RegionHeld3
import Derived.Deep.CutBlock
import Derived.Deep.DeepCutAuto
namespace Go.Proofs.YtbakmphopgkpmaaDoor.LgI
open Go.ChangeShapes Go.WideShapes Go.ChangeAt Go.RowKit Go.Proofs.YtbakmphopgkpmaaDoor.Num Go.Proofs.YtbakmphopgkpmaaDoor.Sli Go.Proofs.YtbakmphopgkpmaaDoor.App Go.Proofs.YtbakmphopgkpmaaDoor.Samp Go.Proofs.YtbakmphopgkpmaaDoor.SampF Go.Proofs.YtbakmphopgkpmaaDoor.Blk Go.Proofs.YtbakmphopgkpmaaDoor.TurM Go.Proofs.YtbakmphopgkpmaaDoor.HalM Go.Proofs.YtbakmphopgkpmaaDoor.LapM Go.Proofs.YtbakmphopgkpmaaDoor.LapN Go.Proofs.YtbakmphopgkpmaaDoor.IntL Go.Proofs.YtbakmphopgkpmaaDoor.IntA Go.Proofs.YtbakmphopgkpmaaDoor.LapS Go.Proofs.YtbakmphopgkpmaaDoor.TurI Go.Proofs.YtbakmphopgkpmaaDoor.WayM Go.Proofs.YtbakmphopgkpmaaDoor.WayJ Go.Proofs.YtbakmphopgkpmaaDoor.BkI Go.Proofs.YtbakmphopgkpmaaDoor.OwsG Go.Proofs.YtbakmphopgkpmaaDoor.LapW Go.Proofs.YtbakmphopgkpmaaDoor.LaI Go.Proofs.YtbakmphopgkpmaaDoor.LaN Go.Proofs.YtbakmphopgkpmaaDoor.LeI Go.Proofs.YtbakmphopgkpmaaDoor.LfI

theorem gb_pl {s : Int} {co : List Int} (hl : (co.length : Int) = s) (hg : gbC co = 0) : gbL co = plB s co := by
  have e : s.toNat = co.length := by omega
  show (if gbC co = 0 then ga (dep co.length) co else []) = ga (dep s.toNat) co
  rw [if_pos hg, e]
set_option maxRecDepth 100000 in
set_option maxHeartbeats 4000000 in
theorem implPlayBlock_calls (s : Int) (vh vt vc : Value) (head tail co : List Int) (w : World) (h1 : Sl .i64 w vh head) (h2 : Sl .i64 w vt tail) (h3 : Sl .i64 w vc co) (m1 : head.length ≤ 1048576) (m2 : tail.length ≤ 1048576) (m3 : co.length ≤ 1048576) (hT : Tab w) :
    Calls Tryd.prog 33 #[.agg #[.int .i64 s, vh, vt], vc] w fun e w' => ∃ u t k, e = .returned (.agg #[.int .i64 (plC s head tail co), .int .i64 (plS s head tail co), u, t, k]) ∧ OWS w.heap.size w' [(u, plU s head tail co), (t, plV s head tail co), (k, plW s head tail co)] ∧ Below w.heap.size w w' := by
  have HA := hid (fun W (q1 : Sl .i64 W vh head) (q2 : Sl .i64 W vt tail) => implSynthFault_calls s vh vt head tail W q1 q2 m1 m2)
  have HG := hid (fun W (q : Sl .i64 W vc co) (ht : Tab W) => FcI.implGatherBlock_calls vc co W q m3 ht)
  have HN : Hid (∀ (W : World) (c : Int), plC s head tail co = c → c ≠ 0 → Below w.heap.size w W → ∃ u t k, Ending.returned (.agg #[.int .i64 c, .int .i64 0, .slice none 0 0, .slice none 0 0, .slice none 0 0]) = .returned (.agg #[.int .i64 (plC s head tail co), .int .i64 (plS s head tail co), u, t, k]) ∧ OWS w.heap.size W [(u, plU s head tail co), (t, plV s head tail co), (k, plW s head tail co)] ∧ Below w.heap.size w W) := by
    intro W c e1 e2 hb
    subst e1
    refine ⟨_, _, _, by rw [show plS s head tail co = 0 from if_neg e2], ?_, hb⟩
    rw [show plU s head tail co = [] from if_neg e2, show plV s head tail co = [] from if_neg e2, show plW s head tail co = [] from if_neg e2]
    exact ows_none _ _
  have HK0 : Hid (BX w #[.int .i64 s, vh, vt] 43 #[.int .i64 0, .int .i64 0, .slice none 0 0, .slice none 0 0, .slice none 0 0] 48 _) := BX.new w _ _ _ _
  have hsz0 : ((w.alloc (.cells #[.int .i64 s, vh, vt] 43)).alloc (.cells #[.int .i64 0, .int .i64 0, .slice none 0 0, .slice none 0 0, .slice none 0 0] 48)).heap.size = w.heap.size + 1 + 1 := by rw [World.size_alloc, World.size_alloc]
  have H1 := hid (h1.later HK0.out.b)
  have H2 := hid (h2.later HK0.out.b)
  have H3 := hid (h3.later HK0.out.b)
  have HT := hid (hT.later HK0.out.b)
  by_cases hl : syC s head tail = 0
  · rw [hl] at HA
    by_cases hn : (co.length : Int) = s
    · have hnb : ((co.length : Int) != s) = false := by simpa using hn
      by_cases hs : gbC co = 0
      · have hc : plC s head tail co = 0 := by unfold plC; rw [if_pos hl, if_pos hn]; exact hs
        have HE : Hid (plS s head tail co = s ∧ plU s head tail co = plH s tail co ∧ plV s head tail co = (plB s co).drop (hN s) ∧ plW s head tail co = head ++ plT s tail co) := ⟨if_pos hc, if_pos hc, if_pos hc, if_pos hc⟩
        obtain ⟨hz, l1, l2, b1, b2⟩ := sy_ok hl
        obtain ⟨g1, g2, g3⟩ := gath_ok hz hn hs
        have HF := hid (fun W v1 v2 v3 (q1 : Sl .i64 W v1 head) (q2 : Sl .i64 W v2 tail) (q3 : Sl .i64 W v3 (plB s co)) (q4 : Fits v3) (ht : Tab W) wv (hw : WayV false W wv) => played_calls false (by first | trivial | rfl) wv s v1 v2 v3 head tail (plB s co) W hz q1 q2 q3 q4 l1 l2 g2 (wlim_no (b2.mono (by omega))) (wlim_no (g3.mono (by omega))) ht hw)
        rw [wF_no] at HF
        have HNB := hid numbersBack_calls
        have HFe : Hid (smB (bkF s.toNat) (hN s) tail ((plB s co).take (hN s)) = plH s tail co ∧ smA (bkF s.toNat) (hN s) tail ((plB s co).take (hN s)) = plT s tail co) := ⟨rfl, rfl⟩
        rw [HFe.out.1, HFe.out.2] at HF
        rw [hs, gb_pl hn hs] at HG
        rw [hc, HE.out.1, HE.out.2.1, HE.out.2.2.1, HE.out.2.2.2]
        obtain ⟨a1, c1, rfl, -⟩ := id h1
        obtain ⟨a2, c2, rfl, -⟩ := id h2
        obtain ⟨a3, c3, rfl, -⟩ := id h3
        clear hl hs hc HE HN HFe hz l1 l2 b1 b2 g1 g2 g3 h1 h2 h3 hT m1 m2 m3 hn
        generalize plH s tail co = rF at *
        generalize head ++ plT s tail co = rK at *
        generalize (plB s co).drop (hN s) = rD at *
        generalize plB s co = rB at *
        generalize s.toNat = n at *
        generalize hN s = m at *
        obtain ⟨t0, t1, t2, _⟩ := HK0.out.l.three
        go_enter Tryd.func33, Tryd.ntmps33
        go_wp2_with fail
        generalize (w.alloc (.cells #[.int .i64 s, .slice a1 head.length c1, .slice a2 tail.length c2] 43)).alloc (.cells #[.int .i64 0, .int .i64 0, .slice none 0 0, .slice none 0 0, .slice none 0 0] 48) = w0 at *
        refine (HA.out _ H1.out H2.out).mono ?_
        rintro e w1 ⟨rfl, hb1⟩
        have HK1 := hid (HK0.out.later hb1)
        have H11 := hid (H1.out.later hb1)
        have H21 := hid (H2.out.later hb1)
        have H31 := hid (H3.out.later hb1)
        have HT1 := hid (HT.out.later hb1)
        have hz1 : w.heap.size + 1 + 1 ≤ w1.heap.size := by have := hb1.size; omega
        clear t0 t1 t2 hsz0
        obtain ⟨t0, t1, t2, _⟩ := HK1.out.l.three
        clear hb1 HK0 H1 H2 H3 HT HA
        go_wp2_with fail
        refine (HG.out _ H31.out HT1.out).mono ?_
        rintro e w2 ⟨uk, rfl, hk2, hb2⟩
        obtain ⟨ak, ck, rfl, -⟩ := hk2.sl
        have hfk := hk2.fits
        have hbb := bmore hb2 (.cells #[.int .i64 0, .slice ak rB.length ck] 35)
        have HK3 := hid (HK1.out.later hbb)
        have H13 := hid (H11.out.later hbb)
        have H23 := hid (H21.out.later hbb)
        have HT3 := hid (HT1.out.later hbb)
        have HB3 := hid (hk2.sl.later (bmore (Below.refl _ _) (.cells #[.int .i64 0, .slice ak rB.length ck] 35)))
        have HI3 := hid (Blk.new w2 #[.int .i64 0, .slice ak rB.length ck] 35)
        have hz3 : w.heap.size + 1 + 1 ≤ (w2.alloc (.cells #[.int .i64 0, .slice ak rB.length ck] 35)).heap.size := by rw [World.size_alloc]; have := hb2.size; omega
        have hI : w2.heap.size < (w2.alloc (.cells #[.int .i64 0, .slice ak rB.length ck] 35)).heap.size := by rw [World.size_alloc]; omega
        clear t0 t1 t2 hk2 hb2 hbb HK1 H11 H21 H31 HT1 HG hz1
        obtain ⟨i0, i1, _, _⟩ := HI3.out.two
        go_upto_region 9 with fail
        clear i0 i1
        generalize w2.heap.size = I at *
        generalize w2.alloc (.cells #[.int .i64 0, .slice ak rB.length ck] 35) = w3 at *
        go_cut [7, 8] from 29 to 37 (fun z v wc => ∃ E gb cb gd cd gk cq : Nat, z = .pointer (some ⟨E, 0, none⟩) ∧ v = .slice (some ⟨gk, 0, none⟩) n cq ∧ w3.heap.size ≤ E ∧ Hid (Blk wc E #[.int .i64 s, .slice (some ⟨gb, 0, none⟩) m cb, .slice (some ⟨gd, 0, none⟩) m cd] 102) ∧ Hid (TW w3.heap.size (.slice (some ⟨gb, 0, none⟩) m cb) (.slice (some ⟨gd, 0, none⟩) m cd) rF rD wc) ∧ Hid (OwI w3.heap.size wc (.slice (some ⟨gk, 0, none⟩) n cq) rK) ∧ Hid (∀ g, ((Value.slice (some ⟨gb, 0, none⟩) m cb).ownBlock = some g ∨ (Value.slice (some ⟨gd, 0, none⟩) m cd).ownBlock = some g) → (Value.slice (some ⟨gk, 0, none⟩) n cq).ownBlock ≠ some g) ∧ Hid (Below w3.heap.size w3 wc))
        case first =>
          have hL0 : Below w3.heap.size w3 w3.drew := (Below.refl _ w3).drew
          have hA1 : Below w3.heap.size w3 (w3.alloc (.cells #[.int .i64 0, .slice none 0 0, .slice none 0 0] 102)).drew := (bmore (Below.refl _ w3) _).drew
          have hE1 : Blk (w3.alloc (.cells #[.int .i64 0, .slice none 0 0, .slice none 0 0] 102)).drew w3.heap.size #[.int .i64 0, .slice none 0 0, .slice none 0 0] 102 := Blk.new w3 _ _
          obtain ⟨p0, p1, p2, _⟩ := HK3.out.l.three
          obtain ⟨_, i1, _, _⟩ := HI3.out.two
          have hKl := HK3.out.l.lt
          have HCs : Hid (∀ W, Below w3.heap.size w3 W → W.cell? ⟨w.heap.size, 0, none⟩ = some (.int .i64 s) ∧ W.cell? ⟨w.heap.size, 1, none⟩ = some (.slice a1 head.length c1) ∧ W.cell? ⟨w.heap.size, 2, none⟩ = some (.slice a2 tail.length c2) ∧ W.cell? ⟨I, 1, none⟩ = some (.slice ak rB.length ck)) := fun W hb => ⟨(hb.cell (p := ⟨w.heap.size, 0, none⟩) hKl).trans p0, (hb.cell (p := ⟨w.heap.size, 1, none⟩) hKl).trans p1, (hb.cell (p := ⟨w.heap.size, 2, none⟩) hKl).trans p2, (hb.cell (p := ⟨I, 1, none⟩) hI).trans i1⟩
          refine wp_region_noPanic ?_
          refine wp_region_held_drew (S := fun W => Below w3.heap.size w3 W) (by kernel_rfl) (by first | exact hP9 | exact hL9 | exact hLA | exact hL8 | exact hP7 | exact hL7 | exact hA1 | exact hL0) (fun hHeld => ?_)
          (refine wpAnyH_take (i := 0) (v := ?_) rfl (by kernel_rfl) (by kernel_rfl) (by kernel_rfl) (fun _ _ _ h => h) (Or.inl ⟨by rfl, ?_⟩) hHeld ?_; rotate_left; (intro w hSw; (obtain ⟨s0, s1, s2, s3⟩ := HCs.out _ hSw; clear hSw); (go_simp <;> with_reducible rfl)); simp only [List.getElem_toArray, List.getElem_cons_zero, Act.put, List.setIfInBounds_toArray, List.set_cons_zero, List.set_cons_succ])
          (refine wpAnyH_take (i := 2) (v := ?_) rfl (by kernel_rfl) (by kernel_rfl) (by kernel_rfl) (fun _ _ _ h => h) (Or.inl ⟨by rfl, ?_⟩) hHeld ?_; rotate_left; (intro w hSw; (obtain ⟨s0, s1, s2, s3⟩ := HCs.out _ hSw; clear hSw); (go_simp <;> with_reducible rfl)); simp only [List.getElem_toArray, List.getElem_cons_zero, List.getElem_cons_succ, Act.put, List.setIfInBounds_toArray, List.set_cons_zero, List.set_cons_succ])
          (refine wpAnyH_take (i := 3) (v := ?_) rfl (by kernel_rfl) (by kernel_rfl) (by kernel_rfl) (fun _ _ _ h => h) (Or.inl ⟨by rfl, ?_⟩) hHeld ?_; rotate_left; (intro w hSw; (obtain ⟨s0, s1, s2, s3⟩ := HCs.out _ hSw; clear hSw); (go_simp <;> with_reducible rfl)); simp only [List.getElem_toArray, List.getElem_cons_zero, List.getElem_cons_succ, Act.put, List.setIfInBounds_toArray, List.set_cons_zero, List.set_cons_succ])
          refine wpAnyH_ready (rs := [1, 9]) (by kernel_rfl) (by simp) ?_
          refine (AllReadyH.cons rfl (fun K hK => ?_) (AllReadyH.cons rfl (fun K hK => ?_) AllReadyH.nil))
          · go_simp
            (refine (synthOf_calls _ _ _ _ _ _ _ _).mono ?_; rintro e w8 ⟨rfl, hb8⟩; have hL8 := bthen hHeld hb8; have hL7 := bmore hL8 (.cells #[.int .i64 0, .slice none 0 0, .slice none 0 0] 102); have hE8 := Blk.new w8 #[.int .i64 0, .slice none 0 0, .slice none 0 0] 102; have hle8 : w3.heap.size ≤ w8.heap.size := hL8.size)
            refine hK.out _ _ (by first | exact hP9 | exact hL9 | exact hLA | exact hL8 | exact hP7 | exact hL7 | exact hA1 | exact hL0) (fun hHeld => ?_)
            clear hK K
            try dsimp only
            refine wpAnyH_ready (rs := [4, 9]) (by kernel_rfl) (by simp) ?_
            refine (AllReadyH.cons rfl (fun K hK => ?_) (AllReadyH.cons rfl (fun K hK => ?_) AllReadyH.nil))
            · go_simp
              (refine (HNB.out _).mono ?_; rintro e wA ⟨wv, rfl, hvA, hbA⟩; have hLA := bthen hHeld hbA; have hL7 := bmore hLA (.cells #[.int .i64 0, .slice none 0 0, .slice none 0 0] 102); have hE8 := Blk.new wA #[.int .i64 0, .slice none 0 0, .slice none 0 0] 102; have hle8 : w3.heap.size ≤ wA.heap.size := hLA.size)
              refine hK.out _ _ (by first | exact hP9 | exact hL9 | exact hLA | exact hL8 | exact hP7 | exact hL7 | exact hA1 | exact hL0) (fun hHeld => ?_)
              clear hK K
              try dsimp only
              refine wpAnyH_ready (rs := [5, 9]) (by kernel_rfl) (by simp) ?_
              refine (AllReadyH.cons rfl (fun K hK => ?_) (AllReadyH.cons rfl (fun K hK => ?_) AllReadyH.nil))
              · go_simp
                (refine (HF.out _ _ _ _ (H13.out.later hHeld) (H23.out.later hHeld) (HB3.out.later hHeld) hfk (HT3.out.later hHeld) _ (by first | exact hvA | exact hvA.later (bmore (Below.refl _ _) _))).mono ?_; rintro e w9 ⟨gb, cb, gd, cd, gk, cq, rfl, ht9, hk9, hb9, hne9⟩; have hL9 := bthen hHeld hb9; have hN9 : ∀ g, ((Value.slice (some ⟨gb, 0, none⟩) m cb).ownBlock = some g ∨ (Value.slice (some ⟨gd, 0, none⟩) m cd).ownBlock = some g) → (Value.slice (some ⟨gk, 0, none⟩) n cq).ownBlock ≠ some g := (fun g h e => by simp [Value.ownBlock] at h e; omega); clear hE8; have hle8 : w3.heap.size ≤ w9.heap.size := hL9.size; have hL7 := bmore hL9 (.cells #[.int .i64 0, .slice none 0 0, .slice none 0 0] 102); have hP7 := bmore hL9 (.cells #[.int .i64 s, .slice (some ⟨gb, 0, none⟩) m cb, .slice (some ⟨gd, 0, none⟩) m cd] 102); have hQ9 := Blk.new w9 #[.int .i64 s, .slice (some ⟨gb, 0, none⟩) m cb, .slice (some ⟨gd, 0, none⟩) m cd] 102; have hW9 := (ht9.mono hHeld.size).later (bmore (Below.refl _ _) (.cells #[.int .i64 s, .slice (some ⟨gb, 0, none⟩) m cb, .slice (some ⟨gd, 0, none⟩) m cd] 102)); have hO9 := (hk9.mono hHeld.size).later (bmore (Below.refl _ _) (.cells #[.int .i64 s, .slice (some ⟨gb, 0, none⟩) m cb, .slice (some ⟨gd, 0, none⟩) m cd] 102)))
                refine hK.out _ _ (by first | exact hP9 | exact hL9 | exact hLA | exact hL8 | exact hP7 | exact hL7 | exact hA1 | exact hL0) (fun hHeld => ?_)
                clear hK K
                try dsimp only
                (refine wpAnyH_take (i := 6) (v := ?_) rfl (by kernel_rfl) (by kernel_rfl) (by kernel_rfl) (fun _ _ _ h => h) (Or.inl ⟨by rfl, ?_⟩) hHeld ?_; rotate_left; (intro w hSw; (obtain ⟨s0, s1, s2, s3⟩ := HCs.out _ hSw; clear hSw); (go_simp <;> with_reducible rfl)); simp only [List.getElem_toArray, List.getElem_cons_zero, List.getElem_cons_succ, Act.put, List.setIfInBounds_toArray, List.set_cons_zero, List.set_cons_succ])
                (refine wpAnyH_take (i := 7) (v := ?_) rfl (by kernel_rfl) (by kernel_rfl) (by kernel_rfl) (fun _ _ _ h => h) (Or.inl ⟨by rfl, ?_⟩) hHeld ?_; rotate_left; (intro w hSw; (obtain ⟨s0, s1, s2, s3⟩ := HCs.out _ hSw; clear hSw); (go_simp <;> with_reducible rfl)); simp only [List.getElem_toArray, List.getElem_cons_zero, List.getElem_cons_succ, Act.put, List.setIfInBounds_toArray, List.set_cons_zero, List.set_cons_succ])
                (refine wpAnyH_take (i := 8) (v := ?_) rfl (by kernel_rfl) (by kernel_rfl) (by kernel_rfl) (fun _ _ _ h => h) (Or.inl ⟨by rfl, ?_⟩) hHeld ?_; rotate_left; (intro w hSw; (obtain ⟨s0, s1, s2, s3⟩ := HCs.out _ hSw; clear hSw); (go_simp <;> with_reducible rfl)); simp only [List.getElem_toArray, List.getElem_cons_zero, List.getElem_cons_succ, Act.put, List.setIfInBounds_toArray, List.set_cons_zero, List.set_cons_succ])
                refine wpAnyH_ready (rs := [9]) (by kernel_rfl) (by simp) ?_
                refine (AllReadyH.cons rfl (fun K hK => ?_) AllReadyH.nil)
                go_simp
                skip
                refine hK.out _ _ (by first | exact hP9 | exact hL9 | exact hLA | exact hL8 | exact hP7 | exact hL7 | exact hA1 | exact hL0) (fun hHeld => ?_)
                clear hK K
                try simp only [List.getElem_toArray, List.getElem_cons_zero, List.getElem_cons_succ, Act.put, List.setIfInBounds_toArray, List.set_cons_zero, List.set_cons_succ]
                refine wpAnyH_ready (rs := [10]) (by kernel_rfl) (by simp) ?_
                refine (AllReadyH.cons rfl (fun K hK => ?_) AllReadyH.nil)
                go_simp
                skip
                refine hK.out _ _ (by first | exact hP9 | exact hL9 | exact hLA | exact hL8 | exact hP7 | exact hL7 | exact hA1 | exact hL0) (fun hHeld => ?_)
                clear hK K
                try simp only [List.getElem_toArray, List.getElem_cons_zero, List.getElem_cons_succ, Act.put, List.setIfInBounds_toArray, List.set_cons_zero, List.set_cons_succ]
                (refine wpAnyH_take (i := 11) (v := ?_) rfl (by kernel_rfl) (by kernel_rfl) (by kernel_rfl) (fun _ _ _ h => h) (Or.inl ⟨by rfl, ?_⟩) hHeld ?_; rotate_left; (intro w hSw; (obtain ⟨s0, s1, s2, s3⟩ := HCs.out _ hSw; clear hSw); (go_simp <;> with_reducible rfl)); simp only [List.getElem_toArray, List.getElem_cons_zero, List.getElem_cons_succ, Act.put, List.setIfInBounds_toArray, List.set_cons_zero, List.set_cons_succ])
                refine wpAnyH_done (by kernel_rfl) ?_ _
                refine NoPanic.normal ?_
                go_wp2_with fail
                go_meet
                case rel => first | exact ⟨_, _, _, _, _, _, _, rfl, rfl, hle8, hQ9, hW9, hO9, hN9, hP9⟩ | exact ⟨_, _, _, _, _, _, _, rfl, rfl, hle8, hQ9, hW9, hO9, hN9, hP7⟩
              · go_simp
                skip
                refine hK.out _ _ (by first | exact hP9 | exact hL9 | exact hLA | exact hL8 | exact hP7 | exact hL7 | exact hA1 | exact hL0) (fun hHeld => ?_)
                clear hK K
                try simp only [List.getElem_toArray, List.getElem_cons_zero, List.getElem_cons_succ, Act.put, List.setIfInBounds_toArray, List.set_cons_zero, List.set_cons_succ]
                refine wpAnyH_ready (rs := [5]) (by kernel_rfl) (by simp) ?_
                refine (AllReadyH.cons rfl (fun K hK => ?_) AllReadyH.nil)
                go_simp
                (refine (HF.out _ _ _ _ (H13.out.later hHeld) (H23.out.later hHeld) (HB3.out.later hHeld) hfk (HT3.out.later hHeld) _ (by first | exact hvA | exact hvA.later (bmore (Below.refl _ _) _))).mono ?_; rintro e w9 ⟨gb, cb, gd, cd, gk, cq, rfl, ht9, hk9, hb9, hne9⟩; have hL9 := bthen hHeld hb9; have hN9 : ∀ g, ((Value.slice (some ⟨gb, 0, none⟩) m cb).ownBlock = some g ∨ (Value.slice (some ⟨gd, 0, none⟩) m cd).ownBlock = some g) → (Value.slice (some ⟨gk, 0, none⟩) n cq).ownBlock ≠ some g := (fun g h e => by simp [Value.ownBlock] at h e; omega); have hE9 := hE8.later hb9; obtain ⟨y0, y1, y2, y3⟩ := hE9.three; have hP9 := below_cell (below_cell (below_cell hL9 hle8 0 (.int .i64 s)) hle8 1 (.slice (some ⟨gb, 0, none⟩) m cb)) hle8 2 (.slice (some ⟨gd, 0, none⟩) m cd); have hQ9 := ((hE9.set 0 (.int .i64 s)).set 1 (.slice (some ⟨gb, 0, none⟩) m cb)).set 2 (.slice (some ⟨gd, 0, none⟩) m cd); have hW9 := (ht9.over hE8.lt (grown_set3 w9 _ (.int .i64 s) (.slice (some ⟨gb, 0, none⟩) m cb) (.slice (some ⟨gd, 0, none⟩) m cd))).mono hHeld.size; have hO9 := (hk9.over hE8.lt (grown_set3 w9 _ (.int .i64 s) (.slice (some ⟨gb, 0, none⟩) m cb) (.slice (some ⟨gd, 0, none⟩) m cd))).mono hHeld.size)
                refine hK.out _ _ (by first | exact hP9 | exact hL9 | exact hLA | exact hL8 | exact hP7 | exact hL7 | exact hA1 | exact hL0) (fun hHeld => ?_)
                clear hK K
                try dsimp only
                (refine wpAnyH_take (i := 6) (v := ?_) rfl (by kernel_rfl) (by kernel_rfl) (by kernel_rfl) (fun _ _ _ h => h) (Or.inl ⟨by rfl, ?_⟩) hHeld ?_; rotate_left; (intro w hSw; (obtain ⟨s0, s1, s2, s3⟩ := HCs.out _ hSw; clear hSw); (go_simp <;> with_reducible rfl)); simp only [List.getElem_toArray, List.getElem_cons_zero, List.getElem_cons_succ, Act.put, List.setIfInBounds_toArray, List.set_cons_zero, List.set_cons_succ])
                (refine wpAnyH_take (i := 7) (v := ?_) rfl (by kernel_rfl) (by kernel_rfl) (by kernel_rfl) (fun _ _ _ h => h) (Or.inl ⟨by rfl, ?_⟩) hHeld ?_; rotate_left; (intro w hSw; (obtain ⟨s0, s1, s2, s3⟩ := HCs.out _ hSw; clear hSw); (go_simp <;> with_reducible rfl)); simp only [List.getElem_toArray, List.getElem_cons_zero, List.getElem_cons_succ, Act.put, List.setIfInBounds_toArray, List.set_cons_zero, List.set_cons_succ])
                (refine wpAnyH_take (i := 8) (v := ?_) rfl (by kernel_rfl) (by kernel_rfl) (by kernel_rfl) (fun _ _ _ h => h) (Or.inl ⟨by rfl, ?_⟩) hHeld ?_; rotate_left; (intro w hSw; (obtain ⟨s0, s1, s2, s3⟩ := HCs.out _ hSw; clear hSw); (go_simp <;> with_reducible rfl)); simp only [List.getElem_toArray, List.getElem_cons_zero, List.getElem_cons_succ, Act.put, List.setIfInBounds_toArray, List.set_cons_zero, List.set_cons_succ])
                refine wpAnyH_ready (rs := [10]) (by kernel_rfl) (by simp) ?_
                refine (AllReadyH.cons rfl (fun K hK => ?_) AllReadyH.nil)
                go_simp
                skip
                refine hK.out _ _ (by first | exact hP9 | exact hL9 | exact hLA | exact hL8 | exact hP7 | exact hL7 | exact hA1 | exact hL0) (fun hHeld => ?_)
                clear hK K
                try simp only [List.getElem_toArray, List.getElem_cons_zero, List.getElem_cons_succ, Act.put, List.setIfInBounds_toArray, List.set_cons_zero, List.set_cons_succ]
                (refine wpAnyH_take (i := 11) (v := ?_) rfl (by kernel_rfl) (by kernel_rfl) (by kernel_rfl) (fun _ _ _ h => h) (Or.inl ⟨by rfl, ?_⟩) hHeld ?_; rotate_left; (intro w hSw; (obtain ⟨s0, s1, s2, s3⟩ := HCs.out _ hSw; clear hSw); (go_simp <;> with_reducible rfl)); simp only [List.getElem_toArray, List.getElem_cons_zero, List.getElem_cons_succ, Act.put, List.setIfInBounds_toArray, List.set_cons_zero, List.set_cons_succ])
                refine wpAnyH_done (by kernel_rfl) ?_ _
                refine NoPanic.normal ?_
                go_wp2_with fail
                go_meet
                case rel => first | exact ⟨_, _, _, _, _, _, _, rfl, rfl, hle8, hQ9, hW9, hO9, hN9, hP9⟩ | exact ⟨_, _, _, _, _, _, _, rfl, rfl, hle8, hQ9, hW9, hO9, hN9, hP7⟩
            · go_simp
              skip
              refine hK.out _ _ (by first | exact hP9 | exact hL9 | exact hLA | exact hL8 | exact hP7 | exact hL7 | exact hA1 | exact hL0) (fun hHeld => ?_)
              clear hK K
              try simp only [List.getElem_toArray, List.getElem_cons_zero, List.getElem_cons_succ, Act.put, List.setIfInBounds_toArray, List.set_cons_zero, List.set_cons_succ]
              refine wpAnyH_ready (rs := [4]) (by kernel_rfl) (by simp) ?_
              refine (AllReadyH.cons rfl (fun K hK => ?_) AllReadyH.nil)
              go_simp
              (refine (HNB.out _).mono ?_; rintro e wA ⟨wv, rfl, hvA, hbA⟩; have hLA := bthen hHeld hbA; have hE8 := hE8.later hbA)
              refine hK.out _ _ (by first | exact hP9 | exact hL9 | exact hLA | exact hL8 | exact hP7 | exact hL7 | exact hA1 | exact hL0) (fun hHeld => ?_)
              clear hK K
              try dsimp only
              refine wpAnyH_ready (rs := [5]) (by kernel_rfl) (by simp) ?_
              refine (AllReadyH.cons rfl (fun K hK => ?_) AllReadyH.nil)
              go_simp
              (refine (HF.out _ _ _ _ (H13.out.later hHeld) (H23.out.later hHeld) (HB3.out.later hHeld) hfk (HT3.out.later hHeld) _ (by first | exact hvA | exact hvA.later (bmore (Below.refl _ _) _))).mono ?_; rintro e w9 ⟨gb, cb, gd, cd, gk, cq, rfl, ht9, hk9, hb9, hne9⟩; have hL9 := bthen hHeld hb9; have hN9 : ∀ g, ((Value.slice (some ⟨gb, 0, none⟩) m cb).ownBlock = some g ∨ (Value.slice (some ⟨gd, 0, none⟩) m cd).ownBlock = some g) → (Value.slice (some ⟨gk, 0, none⟩) n cq).ownBlock ≠ some g := (fun g h e => by simp [Value.ownBlock] at h e; omega); have hE9 := hE8.later hb9; obtain ⟨y0, y1, y2, y3⟩ := hE9.three; have hP9 := below_cell (below_cell (below_cell hL9 hle8 0 (.int .i64 s)) hle8 1 (.slice (some ⟨gb, 0, none⟩) m cb)) hle8 2 (.slice (some ⟨gd, 0, none⟩) m cd); have hQ9 := ((hE9.set 0 (.int .i64 s)).set 1 (.slice (some ⟨gb, 0, none⟩) m cb)).set 2 (.slice (some ⟨gd, 0, none⟩) m cd); have hW9 := (ht9.over hE8.lt (grown_set3 w9 _ (.int .i64 s) (.slice (some ⟨gb, 0, none⟩) m cb) (.slice (some ⟨gd, 0, none⟩) m cd))).mono hHeld.size; have hO9 := (hk9.over hE8.lt (grown_set3 w9 _ (.int .i64 s) (.slice (some ⟨gb, 0, none⟩) m cb) (.slice (some ⟨gd, 0, none⟩) m cd))).mono hHeld.size)
              refine hK.out _ _ (by first | exact hP9 | exact hL9 | exact hLA | exact hL8 | exact hP7 | exact hL7 | exact hA1 | exact hL0) (fun hHeld => ?_)
              clear hK K
              try dsimp only
              (refine wpAnyH_take (i := 6) (v := ?_) rfl (by kernel_rfl) (by kernel_rfl) (by kernel_rfl) (fun _ _ _ h => h) (Or.inl ⟨by rfl, ?_⟩) hHeld ?_; rotate_left; (intro w hSw; (obtain ⟨s0, s1, s2, s3⟩ := HCs.out _ hSw; clear hSw); (go_simp <;> with_reducible rfl)); simp only [List.getElem_toArray, List.getElem_cons_zero, List.getElem_cons_succ, Act.put, List.setIfInBounds_toArray, List.set_cons_zero, List.set_cons_succ])
              (refine wpAnyH_take (i := 7) (v := ?_) rfl (by kernel_rfl) (by kernel_rfl) (by kernel_rfl) (fun _ _ _ h => h) (Or.inl ⟨by rfl, ?_⟩) hHeld ?_; rotate_left; (intro w hSw; (obtain ⟨s0, s1, s2, s3⟩ := HCs.out _ hSw; clear hSw); (go_simp <;> with_reducible rfl)); simp only [List.getElem_toArray, List.getElem_cons_zero, List.getElem_cons_succ, Act.put, List.setIfInBounds_toArray, List.set_cons_zero, List.set_cons_succ])
              (refine wpAnyH_take (i := 8) (v := ?_) rfl (by kernel_rfl) (by kernel_rfl) (by kernel_rfl) (fun _ _ _ h => h) (Or.inl ⟨by rfl, ?_⟩) hHeld ?_; rotate_left; (intro w hSw; (obtain ⟨s0, s1, s2, s3⟩ := HCs.out _ hSw; clear hSw); (go_simp <;> with_reducible rfl)); simp only [List.getElem_toArray, List.getElem_cons_zero, List.getElem_cons_succ, Act.put, List.setIfInBounds_toArray, List.set_cons_zero, List.set_cons_succ])
              refine wpAnyH_ready (rs := [10]) (by kernel_rfl) (by simp) ?_
              refine (AllReadyH.cons rfl (fun K hK => ?_) AllReadyH.nil)
              go_simp
              skip
              refine hK.out _ _ (by first | exact hP9 | exact hL9 | exact hLA | exact hL8 | exact hP7 | exact hL7 | exact hA1 | exact hL0) (fun hHeld => ?_)
              clear hK K
              try simp only [List.getElem_toArray, List.getElem_cons_zero, List.getElem_cons_succ, Act.put, List.setIfInBounds_toArray, List.set_cons_zero, List.set_cons_succ]
              (refine wpAnyH_take (i := 11) (v := ?_) rfl (by kernel_rfl) (by kernel_rfl) (by kernel_rfl) (fun _ _ _ h => h) (Or.inl ⟨by rfl, ?_⟩) hHeld ?_; rotate_left; (intro w hSw; (obtain ⟨s0, s1, s2, s3⟩ := HCs.out _ hSw; clear hSw); (go_simp <;> with_reducible rfl)); simp only [List.getElem_toArray, List.getElem_cons_zero, List.getElem_cons_succ, Act.put, List.setIfInBounds_toArray, List.set_cons_zero, List.set_cons_succ])
              refine wpAnyH_done (by kernel_rfl) ?_ _
              refine NoPanic.normal ?_
              go_wp2_with fail
              go_meet
              case rel => first | exact ⟨_, _, _, _, _, _, _, rfl, rfl, hle8, hQ9, hW9, hO9, hN9, hP9⟩ | exact ⟨_, _, _, _, _, _, _, rfl, rfl, hle8, hQ9, hW9, hO9, hN9, hP7⟩
          · go_simp
            skip
            refine hK.out _ _ (by first | exact hP9 | exact hL9 | exact hLA | exact hL8 | exact hP7 | exact hL7 | exact hA1 | exact hL0) (fun hHeld => ?_)
            clear hK K
            try simp only [List.getElem_toArray, List.getElem_cons_zero, List.getElem_cons_succ, Act.put, List.setIfInBounds_toArray, List.set_cons_zero, List.set_cons_succ]
            refine wpAnyH_ready (rs := [1]) (by kernel_rfl) (by simp) ?_
            refine (AllReadyH.cons rfl (fun K hK => ?_) AllReadyH.nil)
            go_simp
            (refine (synthOf_calls _ _ _ _ _ _ _ _).mono ?_; rintro e w8 ⟨rfl, hb8⟩; have hL8 := bthen hHeld hb8; have hE8 := hE1.later hb8; have hle8 : w3.heap.size ≤ w3.heap.size := Nat.le_refl _)
            refine hK.out _ _ (by first | exact hP9 | exact hL9 | exact hLA | exact hL8 | exact hP7 | exact hL7 | exact hA1 | exact hL0) (fun hHeld => ?_)
            clear hK K
            try dsimp only
            refine wpAnyH_ready (rs := [4]) (by kernel_rfl) (by simp) ?_
            refine (AllReadyH.cons rfl (fun K hK => ?_) AllReadyH.nil)
            go_simp
            (refine (HNB.out _).mono ?_; rintro e wA ⟨wv, rfl, hvA, hbA⟩; have hLA := bthen hHeld hbA; have hE8 := hE8.later hbA)
            refine hK.out _ _ (by first | exact hP9 | exact hL9 | exact hLA | exact hL8 | exact hP7 | exact hL7 | exact hA1 | exact hL0) (fun hHeld => ?_)
            clear hK K
            try dsimp only
            refine wpAnyH_ready (rs := [5]) (by kernel_rfl) (by simp) ?_
            refine (AllReadyH.cons rfl (fun K hK => ?_) AllReadyH.nil)
            go_simp
            (refine (HF.out _ _ _ _ (H13.out.later hHeld) (H23.out.later hHeld) (HB3.out.later hHeld) hfk (HT3.out.later hHeld) _ (by first | exact hvA | exact hvA.later (bmore (Below.refl _ _) _))).mono ?_; rintro e w9 ⟨gb, cb, gd, cd, gk, cq, rfl, ht9, hk9, hb9, hne9⟩; have hL9 := bthen hHeld hb9; have hN9 : ∀ g, ((Value.slice (some ⟨gb, 0, none⟩) m cb).ownBlock = some g ∨ (Value.slice (some ⟨gd, 0, none⟩) m cd).ownBlock = some g) → (Value.slice (some ⟨gk, 0, none⟩) n cq).ownBlock ≠ some g := (fun g h e => by simp [Value.ownBlock] at h e; omega); have hE9 := hE8.later hb9; obtain ⟨y0, y1, y2, y3⟩ := hE9.three; have hP9 := below_cell (below_cell (below_cell hL9 hle8 0 (.int .i64 s)) hle8 1 (.slice (some ⟨gb, 0, none⟩) m cb)) hle8 2 (.slice (some ⟨gd, 0, none⟩) m cd); have hQ9 := ((hE9.set 0 (.int .i64 s)).set 1 (.slice (some ⟨gb, 0, none⟩) m cb)).set 2 (.slice (some ⟨gd, 0, none⟩) m cd); have hW9 := (ht9.over hE8.lt (grown_set3 w9 _ (.int .i64 s) (.slice (some ⟨gb, 0, none⟩) m cb) (.slice (some ⟨gd, 0, none⟩) m cd))).mono hHeld.size; have hO9 := (hk9.over hE8.lt (grown_set3 w9 _ (.int .i64 s) (.slice (some ⟨gb, 0, none⟩) m cb) (.slice (some ⟨gd, 0, none⟩) m cd))).mono hHeld.size)
            refine hK.out _ _ (by first | exact hP9 | exact hL9 | exact hLA | exact hL8 | exact hP7 | exact hL7 | exact hA1 | exact hL0) (fun hHeld => ?_)
            clear hK K
            try dsimp only
            (refine wpAnyH_take (i := 6) (v := ?_) rfl (by kernel_rfl) (by kernel_rfl) (by kernel_rfl) (fun _ _ _ h => h) (Or.inl ⟨by rfl, ?_⟩) hHeld ?_; rotate_left; (intro w hSw; (obtain ⟨s0, s1, s2, s3⟩ := HCs.out _ hSw; clear hSw); (go_simp <;> with_reducible rfl)); simp only [List.getElem_toArray, List.getElem_cons_zero, List.getElem_cons_succ, Act.put, List.setIfInBounds_toArray, List.set_cons_zero, List.set_cons_succ])
            (refine wpAnyH_take (i := 7) (v := ?_) rfl (by kernel_rfl) (by kernel_rfl) (by kernel_rfl) (fun _ _ _ h => h) (Or.inl ⟨by rfl, ?_⟩) hHeld ?_; rotate_left; (intro w hSw; (obtain ⟨s0, s1, s2, s3⟩ := HCs.out _ hSw; clear hSw); (go_simp <;> with_reducible rfl)); simp only [List.getElem_toArray, List.getElem_cons_zero, List.getElem_cons_succ, Act.put, List.setIfInBounds_toArray, List.set_cons_zero, List.set_cons_succ])
            (refine wpAnyH_take (i := 8) (v := ?_) rfl (by kernel_rfl) (by kernel_rfl) (by kernel_rfl) (fun _ _ _ h => h) (Or.inl ⟨by rfl, ?_⟩) hHeld ?_; rotate_left; (intro w hSw; (obtain ⟨s0, s1, s2, s3⟩ := HCs.out _ hSw; clear hSw); (go_simp <;> with_reducible rfl)); simp only [List.getElem_toArray, List.getElem_cons_zero, List.getElem_cons_succ, Act.put, List.setIfInBounds_toArray, List.set_cons_zero, List.set_cons_succ])
            refine wpAnyH_ready (rs := [10]) (by kernel_rfl) (by simp) ?_
            refine (AllReadyH.cons rfl (fun K hK => ?_) AllReadyH.nil)
            go_simp
            skip
            refine hK.out _ _ (by first | exact hP9 | exact hL9 | exact hLA | exact hL8 | exact hP7 | exact hL7 | exact hA1 | exact hL0) (fun hHeld => ?_)
            clear hK K
            try simp only [List.getElem_toArray, List.getElem_cons_zero, List.getElem_cons_succ, Act.put, List.setIfInBounds_toArray, List.set_cons_zero, List.set_cons_succ]
            (refine wpAnyH_take (i := 11) (v := ?_) rfl (by kernel_rfl) (by kernel_rfl) (by kernel_rfl) (fun _ _ _ h => h) (Or.inl ⟨by rfl, ?_⟩) hHeld ?_; rotate_left; (intro w hSw; (obtain ⟨s0, s1, s2, s3⟩ := HCs.out _ hSw; clear hSw); (go_simp <;> with_reducible rfl)); simp only [List.getElem_toArray, List.getElem_cons_zero, List.getElem_cons_succ, Act.put, List.setIfInBounds_toArray, List.set_cons_zero, List.set_cons_succ])
            refine wpAnyH_done (by kernel_rfl) ?_ _
            refine NoPanic.normal ?_
            go_wp2_with fail
            go_meet
            case rel => first | exact ⟨_, _, _, _, _, _, _, rfl, rfl, hle8, hQ9, hW9, hO9, hN9, hP9⟩ | exact ⟨_, _, _, _, _, _, _, rfl, rfl, hle8, hQ9, hW9, hO9, hN9, hP7⟩
        case rest =>
          obtain ⟨E, gb, cb, gd, cd, gk, cq, rfl, rfl, hE, HE, HW, HO, Hne, HBq⟩ := hcut
          have HK4 := hid (HK3.out.later HBq.out)
          obtain ⟨y0, y1, y2, _⟩ := HE.out.three
          have hzc := HBq.out.size
          have HWm := hid (HW.out.mono hz3)
          have HOm := hid (HO.out.mono hz3)
          clear HK3 H13 H23 HT3 HB3 HI3 hI HF hfk HBq HE HW HO
          go_wp2_with fail
          refine (synthTold_calls _ _ _ _ _ _ _ _).mono ?_
          rintro e w5 ⟨rfl, hb5⟩
          have HK5 := hid (HK4.out.later hb5)
          have HOw := hid (ows_set5 ((OWS.two (HWm.out.later hb5).s (HWm.out.later hb5).d HWm.out.ne).three (HOm.out.later hb5) (fun g x => Hne.out g (.inl x)) (fun g x => Hne.out g (.inr x))) (.int .i64 0) (.int .i64 s) (.slice (some ⟨gb, 0, none⟩) m cb) (.slice (some ⟨gd, 0, none⟩) m cd) (.slice (some ⟨gk, 0, none⟩) n cq))
          have HBf := hid (below5 HK5.out.b (.int .i64 0) (.int .i64 s) (.slice (some ⟨gb, 0, none⟩) m cb) (.slice (some ⟨gd, 0, none⟩) m cd) (.slice (some ⟨gk, 0, none⟩) n cq))
          obtain ⟨r0, r1, r2, r3, r4, q0, q1, q2, q3, q4⟩ := HK5.out.r.five
          clear hb5 HK4 HK5 HWm HOm Hne y0 y1 y2
          go_wp2
          exact bodyPost_ret (v := .agg #[.int .i64 0, .int .i64 s, .slice (some ⟨gb, 0, none⟩) m cb, .slice (some ⟨gd, 0, none⟩) m cd, .slice (some ⟨gk, 0, none⟩) n cq]) (by simp [results, Tryd.results33, go_sem, r0, r1, r2, r3, r4]) rfl ⟨_, _, _, rfl, HOw.out.mono (by omega), HBf.out⟩
      · have hc : plC s head tail co = gbC co := by unfold plC; rw [if_pos hl, if_pos hn]
        have HE := hid (fun W hb => HN.out W (gbC co) hc hs hb)
        have hsb : (gbC co != 0) = true := by simpa using hs
        obtain ⟨a1, c1, rfl, -⟩ := id h1
        obtain ⟨a2, c2, rfl, -⟩ := id h2
        obtain ⟨a3, c3, rfl, -⟩ := id h3
        clear hl hs hc HN hn hsz0 h1 h2 h3 hT
        generalize gbL co = L at *
        generalize gbC co = c at *
        obtain ⟨t0, t1, t2, _⟩ := HK0.out.l.three
        go_enter Tryd.func33, Tryd.ntmps33
        go_wp2_with fail
        refine (HA.out _ H1.out H2.out).mono ?_
        rintro e w1 ⟨rfl, hb1⟩
        have HK1 := hid (HK0.out.later hb1)
        have H31 := hid (H3.out.later hb1)
        have HT1 := hid (HT.out.later hb1)
        obtain ⟨t0, t1, t2, _⟩ := HK1.out.l.three
        clear hb1 HK0 H1 H2 H3 HT HA
        go_wp2_with fail
        refine (HG.out _ H31.out HT1.out).mono ?_
        rintro e w2 ⟨uk, rfl, hk2, hb2⟩
        obtain ⟨ak, ck, rfl, -⟩ := hk2.sl
        have HK2 := hid (HK1.out.later (bmore hb2 (.cells #[.int .i64 c, .slice ak L.length ck] 35)))
        obtain ⟨r0, r1, r2, r3, r4, q0, q1, q2, q3, q4⟩ := HK2.out.r.five
        clear hk2 hb2 HK1 H31 HT1 HG t0 t1 t2
        go_wp2
        exact bodyPost_ret (v := .agg #[.int .i64 c, .int .i64 0, .slice none 0 0, .slice none 0 0, .slice none 0 0]) (by simp [results, Tryd.results33, go_sem, r0, r1, r2, r3, r4]) rfl (HE.out _ (below5 HK2.out.b _ _ _ _ _))
    · have hc : plC s head tail co = 2 := by unfold plC; rw [if_pos hl, if_neg hn]
      have HE := hid (fun W hb => HN.out W 2 hc (by decide) hb)
      have hnb : ((co.length : Int) != s) = true := by simpa using hn
      obtain ⟨a1, c1, rfl, -⟩ := id h1
      obtain ⟨a2, c2, rfl, -⟩ := id h2
      obtain ⟨a3, c3, rfl, -⟩ := id h3
      clear hl hc HN hn HG hsz0 HT h1 h2 h3 hT H3
      obtain ⟨t0, t1, t2, _⟩ := HK0.out.l.three
      go_enter Tryd.func33, Tryd.ntmps33
      go_wp2_with fail
      refine (HA.out _ H1.out H2.out).mono ?_
      rintro e w1 ⟨rfl, hb1⟩
      have HK1 := hid (HK0.out.later hb1)
      obtain ⟨t0, t1, t2, _⟩ := HK1.out.l.three
      obtain ⟨r0, r1, r2, r3, r4, q0, q1, q2, q3, q4⟩ := HK1.out.r.five
      clear hb1 HK0 H1 H2 HA
      go_wp2
      exact bodyPost_ret (v := .agg #[.int .i64 2, .int .i64 0, .slice none 0 0, .slice none 0 0, .slice none 0 0]) (by simp [results, Tryd.results33, go_sem, r0, r1, r2, r3, r4]) rfl (HE.out _ (below5 HK1.out.b _ _ _ _ _))
  · have hc : plC s head tail co = syC s head tail := by unfold plC; rw [if_neg hl]
    have HE := hid (fun W hb => HN.out W (syC s head tail) hc hl hb)
    have hsb : (syC s head tail != 0) = true := by simpa using hl
    obtain ⟨a1, c1, rfl, -⟩ := id h1
    obtain ⟨a2, c2, rfl, -⟩ := id h2
    obtain ⟨a3, c3, rfl, -⟩ := id h3
    clear hl hc HN HG hsz0 HT h1 h2 h3 hT H3
    generalize syC s head tail = c at *
    obtain ⟨t0, t1, t2, _⟩ := HK0.out.l.three
    go_enter Tryd.func33, Tryd.ntmps33
    go_wp2_with fail
    refine (HA.out _ H1.out H2.out).mono ?_
    rintro e w1 ⟨rfl, hb1⟩
    have HK1 := hid (HK0.out.later hb1)
    obtain ⟨r0, r1, r2, r3, r4, q0, q1, q2, q3, q4⟩ := HK1.out.r.five
    clear hb1 HK0 H1 H2 HA t0 t1 t2
    go_wp2
    exact bodyPost_ret (v := .agg #[.int .i64 c, .int .i64 0, .slice none 0 0, .slice none 0 0, .slice none 0 0]) (by simp [results, Tryd.results33, go_sem, r0, r1, r2, r3, r4]) rfl (HE.out _ (below5 HK1.out.b _ _ _ _ _))
end Go.Proofs.YtbakmphopgkpmaaDoor.LgI
