/- FeedFrame of the program: what it tells at every argument of lists of at most 1048576 numbers. Condition: the table of turns. -/
import Derived.Test.YtgnbailcibhenaaDoorLeI
import Derived.Test.YtgnbailcibhenaaDoorFcI
import Derived.Test.YtgnbailcibhenaaDoorGk
import Derived.Test.YtgnbailcibhenaaDoorGa
namespace Go.Proofs.YtgnbailcibhenaaDoor.LfI
open Go.ChangeShapes Go.WideShapes Go.ChangeAt Go.RowKit Go.Proofs.YtgnbailcibhenaaDoor.Num Go.Proofs.YtgnbailcibhenaaDoor.Sli Go.Proofs.YtgnbailcibhenaaDoor.App Go.Proofs.YtgnbailcibhenaaDoor.Samp Go.Proofs.YtgnbailcibhenaaDoor.SampF Go.Proofs.YtgnbailcibhenaaDoor.Blk Go.Proofs.YtgnbailcibhenaaDoor.TurM Go.Proofs.YtgnbailcibhenaaDoor.HalM Go.Proofs.YtgnbailcibhenaaDoor.LapM Go.Proofs.YtgnbailcibhenaaDoor.LapN Go.Proofs.YtgnbailcibhenaaDoor.IntL Go.Proofs.YtgnbailcibhenaaDoor.IntA Go.Proofs.YtgnbailcibhenaaDoor.LapS Go.Proofs.YtgnbailcibhenaaDoor.TurI Go.Proofs.YtgnbailcibhenaaDoor.BkI Go.Proofs.YtgnbailcibhenaaDoor.OwsG Go.Proofs.YtgnbailcibhenaaDoor.LapW Go.Proofs.YtgnbailcibhenaaDoor.LaI Go.Proofs.YtgnbailcibhenaaDoor.LaN Go.Proofs.YtgnbailcibhenaaDoor.LeI

/-- Three lists behind an answer that is stored into block R. -/
theorem ows_set5 {R : Nat} {W : World} {ps : List (Value × List Int)} (h : OWS (R + 1) W ps) (x y z u v : Value) : OWS (R + 1) (((((W.setCell ⟨R, 0, none⟩ x).setCell ⟨R, 1, none⟩ y).setCell ⟨R, 2, none⟩ z).setCell ⟨R, 3, none⟩ u).setCell ⟨R, 4, none⟩ v) ps :=
  h.on (On.of_grown (grown_set5 W R x y z u v)) (fun j hj e => by have := (h.blocks hj).1; cases e; omega)
theorem ows_none (base : Nat) (W : World) : OWS base W [(.slice none 0 0, []), (.slice none 0 0, []), (.slice none 0 0, [])] :=
  (OWS.two (ow_nil _ _) (ow_nil _ _) (fun _ e => by cases e)).three (ow_nil _ _) (fun _ e => by cases e) (fun _ e => by cases e)
set_option maxRecDepth 100000 in
set_option maxHeartbeats 4000000 in
theorem implFeedFrame_calls (s : Int) (vh vr vf : Value) (half rest fr : List Int) (w : World) (h1 : Sl .i64 w vh half) (h2 : Sl .i64 w vr rest) (h3 : Sl .i64 w vf fr) (hf : Fits vf) (m1 : half.length ≤ 1048576) (m2 : rest.length ≤ 1048576) (hT : Tab w) :
    Calls Tryd.prog 13 #[.agg #[.int .i64 s, vh, vr], vf] w fun e w' => ∃ u t k, e = .returned (.agg #[.int .i64 (fdC s half rest fr), .int .i64 (fdS s half rest fr), u, t, k]) ∧ OWS w.heap.size w' [(u, fdU s half rest fr), (t, fdV s half rest fr), (k, fdW s half rest fr)] ∧ Below w.heap.size w w' := by
  have HA := hid (fun W (q1 : Sl .i64 W vh half) (q2 : Sl .i64 W vr rest) => implLapFault_calls s vh vr half rest W q1 q2 m1 m2)
  have HB := hid (fun W (q : Sl .i64 W vf fr) => implSamplesFault_calls s vf fr W q)
  have HN : Hid (∀ (W : World) (c : Int), fdC s half rest fr = c → c ≠ 0 → Below w.heap.size w W → ∃ u t k, Ending.returned (.agg #[.int .i64 c, .int .i64 0, .slice none 0 0, .slice none 0 0, .slice none 0 0]) = .returned (.agg #[.int .i64 (fdC s half rest fr), .int .i64 (fdS s half rest fr), u, t, k]) ∧ OWS w.heap.size W [(u, fdU s half rest fr), (t, fdV s half rest fr), (k, fdW s half rest fr)] ∧ Below w.heap.size w W) := by
    intro W c e1 e2 hb
    subst e1
    refine ⟨_, _, _, by rw [show fdS s half rest fr = 0 from if_neg e2], ?_, hb⟩
    rw [show fdU s half rest fr = [] from if_neg e2, show fdV s half rest fr = [] from if_neg e2, show fdW s half rest fr = [] from if_neg e2]
    exact ows_none _ _
  have HK0 : Hid (BX w #[.int .i64 s, vh, vr] 29 #[.int .i64 0, .int .i64 0, .slice none 0 0, .slice none 0 0, .slice none 0 0] 41 _) := BX.new w _ _ _ _
  have hsz0 : ((w.alloc (.cells #[.int .i64 s, vh, vr] 29)).alloc (.cells #[.int .i64 0, .int .i64 0, .slice none 0 0, .slice none 0 0, .slice none 0 0] 41)).heap.size = w.heap.size + 1 + 1 := by rw [World.size_alloc, World.size_alloc]
  have H1 := hid (h1.later HK0.out.b)
  have H2 := hid (h2.later HK0.out.b)
  have H3 := hid (h3.later HK0.out.b)
  have HT := hid (hT.later HK0.out.b)
  have Hf := hid hf
  by_cases hl : lfC s half rest = 0
  · rw [hl] at HA
    by_cases hs : smF s fr = 0
    · have hc : fdC s half rest fr = 0 := by unfold fdC; rw [if_pos hl]; exact hs
      have HE : Hid (fdS s half rest fr = s ∧ fdU s half rest fr = fdH s rest fr ∧ fdV s half rest fr = fr.drop (hN s) ∧ fdW s half rest fr = fdK s half rest fr) := ⟨if_pos hc, if_pos hc, if_pos hc, if_pos hc⟩
      obtain ⟨hz, l1, l2, b1, b2⟩ := lf_ok hl
      obtain ⟨_, l3, b3⟩ := sm_ok hs
      obtain ⟨k1, k2⟩ := block_ok hc
      obtain ⟨d1, d2⟩ := dep_of hz
      obtain ⟨_, e1, e2, _, e4, _⟩ := sz_nat hz
      have l3' : fr.length = s.toNat := by omega
      have HF := hid (fun W v1 v2 v3 (q1 : Sl .i64 W v1 half) (q2 : Sl .i64 W v2 rest) (q3 : Sl .i64 W v3 fr) (q4 : Fits v3) (ht : Tab W) => fed_calls s v1 v2 v3 half rest fr W hz q1 q2 q3 q4 l1 l2 l3' (b2.lim.mono (by omega)) (b3.lim.mono (by omega)) ht)
      have HFe : Hid (smB (ahF s.toNat) (hN s) rest (fr.take (hN s)) = fdH s rest fr ∧ smA (ahF s.toNat) (hN s) rest (fr.take (hN s)) = fdT s rest fr) := ⟨rfl, rfl⟩
      rw [HFe.out.1, HFe.out.2] at HF
      have HS := hid (fun W v (q : Sl .i64 W v (half ++ fdT s rest fr)) (q2 : Fits v) (ht : Tab W) => SgI.spread_calls (dep s.toNat) v (half ++ fdT s rest fr) 65536 W d2 q q2 k1 k2 (by rcases is3_sz (sz_nat hz).1 with e | e | e | e <;> rw [e] <;> decide) ht)
      have hdk : sp (dep s.toNat) (half ++ fdT s rest fr) = fdK s half rest fr := rfl
      rw [hdk] at HS
      have hd0 : dep s.toNat ≠ 0 := by unfold dep; split <;> (try split) <;> (try split) <;> decide
      have Hd0 := hid hd0
      rw [hs] at HB
      rw [hc, HE.out.1, HE.out.2.1, HE.out.2.2.1, HE.out.2.2.2]
      obtain ⟨a1, c1, rfl, -⟩ := id h1
      obtain ⟨a2, c2, rfl, -⟩ := id h2
      obtain ⟨a3, c3, rfl, -⟩ := id h3
      clear hl hs hc HE HN HFe hz l1 l2 l3 l3' b1 b2 b3 k1 k2 d1 d2 e1 e2 e4 hdk hd0 h1 h2 h3 hT hf m1 m2
      generalize fdH s rest fr = rF at *
      generalize fdK s half rest fr = rK at *
      generalize half ++ fdT s rest fr = rB at *
      generalize fr.drop (hN s) = rD at *
      generalize dep s.toNat = dp at *
      generalize s.toNat = n at *
      generalize hN s = m at *
      obtain ⟨t0, t1, t2, _⟩ := HK0.out.l.three
      go_enter Tryd.func13, Tryd.ntmps13
      go_wp2_with fail
      generalize (w.alloc (.cells #[.int .i64 s, .slice a1 half.length c1, .slice a2 rest.length c2] 29)).alloc (.cells #[.int .i64 0, .int .i64 0, .slice none 0 0, .slice none 0 0, .slice none 0 0] 41) = w0 at *
      refine (HA.out _ H1.out H2.out).mono ?_
      rintro e w1 ⟨rfl, hb1⟩
      have HK1 := hid (HK0.out.later hb1)
      have H11 := hid (H1.out.later hb1)
      have H21 := hid (H2.out.later hb1)
      have H31 := hid (H3.out.later hb1)
      have HT1 := hid (HT.out.later hb1)
      have hz1 : w.heap.size + 1 + 1 ≤ w1.heap.size := by have := hb1.size; omega
      clear t0 t1 t2 hsz0
      obtain ⟨t0, t1, t2, _⟩ := HK1.out.l.three
      clear hb1 HK0 H1 H2 H3 HT HA
      go_wp2_with fail
      refine (HB.out _ H31.out).mono ?_
      rintro e w2 ⟨rfl, hb2⟩
      have HK2 := hid (HK1.out.later hb2)
      have H12 := hid (H11.out.later hb2)
      have H22 := hid (H21.out.later hb2)
      have H32 := hid (H31.out.later hb2)
      have HT2 := hid (HT1.out.later hb2)
      have hz2 : w.heap.size + 1 + 1 ≤ w2.heap.size := Nat.le_trans hz1 hb2.size
      clear t0 t1 t2 hz1
      obtain ⟨t0, t1, t2, _⟩ := HK2.out.l.three
      clear hb2 HK1 H11 H21 H31 HT1 HB
      go_wp2_with fail
      refine (lapOf_calls _ _ _ _ _ _ _ _).mono ?_
      rintro e w3 ⟨rfl, hb3⟩
      have HK3 := hid (HK2.out.later hb3)
      have H13 := hid (H12.out.later hb3)
      have H23 := hid (H22.out.later hb3)
      have H33 := hid (H32.out.later hb3)
      have HT3 := hid (HT2.out.later hb3)
      have hz3 : w.heap.size + 1 + 1 ≤ w3.heap.size := Nat.le_trans hz2 hb3.size
      clear t0 t1 t2 hz2 hb3 HK2 H12 H22 H32 HT2
      go_wp2_with fail
      refine (HF.out _ _ _ _ H13.out H23.out H33.out Hf.out HT3.out).mono ?_
      rintro e w4 ⟨gb, cb, gd, cd, gk, ck, rfl, ht4, hk4, hb4, -⟩
      have hbb := bmore hb4 (.cells #[.int .i64 s, .slice (some ⟨gb, 0, none⟩) m cb, .slice (some ⟨gd, 0, none⟩) m cd] 95)
      have HK5 := hid (HK3.out.later hbb)
      have HW5 := hid ((ht4.later (bmore (Below.refl _ _) (.cells #[.int .i64 s, .slice (some ⟨gb, 0, none⟩) m cb, .slice (some ⟨gd, 0, none⟩) m cd] 95))).mono hz3)
      have HB5 := hid (hk4.later (bmore (Below.refl _ _) (.cells #[.int .i64 s, .slice (some ⟨gb, 0, none⟩) m cb, .slice (some ⟨gd, 0, none⟩) m cd] 95)))
      have HT5 := hid (HT3.out.later hbb)
      have HP5 := hid (Blk.new w4 #[.int .i64 s, .slice (some ⟨gb, 0, none⟩) m cb, .slice (some ⟨gd, 0, none⟩) m cd] 95)
      have hfk := hk4.fits
      have hz5 : w.heap.size + 1 + 1 ≤ (w4.alloc (.cells #[.int .i64 s, .slice (some ⟨gb, 0, none⟩) m cb, .slice (some ⟨gd, 0, none⟩) m cd] 95)).heap.size := by rw [World.size_alloc]; have := hb4.size; omega
      clear ht4 hk4 hb4 hbb HK3 H13 H23 H33 HT3 HF hz3
      obtain ⟨t0, t1, t2, _⟩ := HP5.out.three
      go_wp2_with fail
      refine (lapTold_calls _ _ _ _ _ _ _ _).mono ?_
      rintro e w6 ⟨rfl, hb6⟩
      have HK6 := hid (HK5.out.later hb6)
      have HW6 := hid (HW5.out.later hb6)
      have HB6 := hid (HB5.out.later hb6)
      have HT6 := hid (HT5.out.later hb6)
      have hz6 : w.heap.size + 1 + 1 ≤ w6.heap.size := Nat.le_trans hz5 hb6.size
      clear t0 t1 t2 hb6 HK5 HW5 HB5 HT5 HP5 hz5
      go_wp2_with fail
      refine (HS.out _ _ HB6.out.sl hfk HT6.out).mono ?_
      rintro e w7 ⟨u, rfl, hs7, ho7, hb7⟩
      have HO7 := hid (ho7 Hd0.out)
      have HK7 := hid (HK6.out.later hb7)
      have HW7 := hid (HW6.out.later hb7)
      obtain ⟨au, cu, rfl, -⟩ := hs7
      have n1 : ∀ (v : Value) (ys : List Int), OwI (w.heap.size + 1 + 1) w6 v ys → ∀ g, v.ownBlock = some g → (Value.slice au rK.length cu).ownBlock ≠ some g := by
        intro v ys hv g x1 x2
        have h1 := (hv.block g x1).2
        have h2 := (HO7.out.block g x2).1
        omega
      have HOw := hid (ows_set5 ((OWS.two HW7.out.s HW7.out.d HW7.out.ne).three (HO7.out.mono hz6) (n1 _ _ HW6.out.s) (n1 _ _ HW6.out.d)) (.int .i64 0) (.int .i64 s) (.slice (some ⟨gb, 0, none⟩) m cb) (.slice (some ⟨gd, 0, none⟩) m cd) (.slice au rK.length cu))
      have HBf := hid (below5 HK7.out.b (.int .i64 0) (.int .i64 s) (.slice (some ⟨gb, 0, none⟩) m cb) (.slice (some ⟨gd, 0, none⟩) m cd) (.slice au rK.length cu))
      obtain ⟨r0, r1, r2, r3, r4, q0, q1, q2, q3, q4⟩ := HK7.out.r.five
      clear n1 ho7 hb7 HO7 HK6 HW6 HB6 HT6 HW7 HK7 HS
      go_wp2
      exact bodyPost_ret (v := .agg #[.int .i64 0, .int .i64 s, .slice (some ⟨gb, 0, none⟩) m cb, .slice (some ⟨gd, 0, none⟩) m cd, .slice au rK.length cu]) (by simp [results, Tryd.results13, go_sem, r0, r1, r2, r3, r4]) rfl ⟨_, _, _, rfl, HOw.out.mono (by omega), HBf.out⟩
    · have hc : fdC s half rest fr = smF s fr := by unfold fdC; rw [if_pos hl]
      have HE := hid (fun W hb => HN.out W (smF s fr) hc hs hb)
      have hsb : (smF s fr != 0) = true := by simpa using hs
      obtain ⟨a1, c1, rfl, -⟩ := id h1
      obtain ⟨a2, c2, rfl, -⟩ := id h2
      obtain ⟨a3, c3, rfl, -⟩ := id h3
      clear hl hs hc HN hsz0 HT h1 h2 h3 hT hf Hf
      generalize smF s fr = c at *
      obtain ⟨t0, t1, t2, _⟩ := HK0.out.l.three
      go_enter Tryd.func13, Tryd.ntmps13
      go_wp2_with fail
      refine (HA.out _ H1.out H2.out).mono ?_
      rintro e w1 ⟨rfl, hb1⟩
      have HK1 := hid (HK0.out.later hb1)
      have H31 := hid (H3.out.later hb1)
      obtain ⟨t0, t1, t2, _⟩ := HK1.out.l.three
      clear hb1 HK0 H1 H2 H3 HA
      go_wp2_with fail
      refine (HB.out _ H31.out).mono ?_
      rintro e w2 ⟨rfl, hb2⟩
      have HK2 := hid (HK1.out.later hb2)
      obtain ⟨r0, r1, r2, r3, r4, q0, q1, q2, q3, q4⟩ := HK2.out.r.five
      clear hb2 HK1 H31 HB t0 t1 t2
      go_wp2
      exact bodyPost_ret (v := .agg #[.int .i64 c, .int .i64 0, .slice none 0 0, .slice none 0 0, .slice none 0 0]) (by simp [results, Tryd.results13, go_sem, r0, r1, r2, r3, r4]) rfl (HE.out _ (below5 HK2.out.b _ _ _ _ _))
  · have hc : fdC s half rest fr = lfC s half rest := by unfold fdC; rw [if_neg hl]
    have HE := hid (fun W hb => HN.out W (lfC s half rest) hc hl hb)
    have hsb : (lfC s half rest != 0) = true := by simpa using hl
    obtain ⟨a1, c1, rfl, -⟩ := id h1
    obtain ⟨a2, c2, rfl, -⟩ := id h2
    obtain ⟨a3, c3, rfl, -⟩ := id h3
    clear hl hc HN HB hsz0 HT h1 h2 h3 hT hf Hf H3
    generalize lfC s half rest = c at *
    obtain ⟨t0, t1, t2, _⟩ := HK0.out.l.three
    go_enter Tryd.func13, Tryd.ntmps13
    go_wp2_with fail
    refine (HA.out _ H1.out H2.out).mono ?_
    rintro e w1 ⟨rfl, hb1⟩
    have HK1 := hid (HK0.out.later hb1)
    obtain ⟨r0, r1, r2, r3, r4, q0, q1, q2, q3, q4⟩ := HK1.out.r.five
    clear hb1 HK0 H1 H2 HA t0 t1 t2
    go_wp2
    exact bodyPost_ret (v := .agg #[.int .i64 c, .int .i64 0, .slice none 0 0, .slice none 0 0, .slice none 0 0]) (by simp [results, Tryd.results13, go_sem, r0, r1, r2, r3, r4]) rfl (HE.out _ (below5 HK1.out.b _ _ _ _ _))
end Go.Proofs.YtgnbailcibhenaaDoor.LfI
