/- The walks through the exact laws of whether two laps or synths are the same, for a program that answers by the common answers. Condition: the program's own contract, wherever nothing that was there before has turned. -/
import Derived.Test.YtonpffmncghkaaaExLf
namespace Go.Proofs.Ytonpffmncghkaaa.ExLs
open Go.ChangeShapes Go.WideShapes Go.ChangeAt Go.RowKit Go.Proofs.Ytonpffmncghkaaa.Num Go.Proofs.Ytonpffmncghkaaa.Sli Go.Proofs.Ytonpffmncghkaaa.App Go.Proofs.Ytonpffmncghkaaa.Blk Go.Proofs.Ytonpffmncghkaaa.LapM Go.Proofs.Ytonpffmncghkaaa.IntL Go.Proofs.Ytonpffmncghkaaa.OwsG Go.Proofs.Ytonpffmncghkaaa.LapS Go.Proofs.Ytonpffmncghkaaa.LapX Go.Proofs.Ytonpffmncghkaaa.LapY Go.Proofs.Ytonpffmncghkaaa.LapZ Go.Proofs.Ytonpffmncghkaaa.ExLf

set_option maxHeartbeats 4000000 in
theorem exactSameLaps_calls (s : Int) (a1 a2 : Option Addr) (c1 c2 : Nat) (x1 x2 : List Int) (r : Int) (b1 b2 : Option Addr) (d1 d2 : Nat) (y1 y2 : List Int) (w : World) (h1 : Sl .i64 w (.slice a1 x1.length c1) x1) (h2 : Sl .i64 w (.slice a2 x2.length c2) x2) (m1 : x1.length ≤ maxLen) (m2 : x2.length ≤ maxLen) (k1 : Sl .i64 w (.slice b1 y1.length d1) y1) (k2 : Sl .i64 w (.slice b2 y2.length d2) y2) (n1 : y1.length ≤ maxLen) (n2 : y2.length ≤ maxLen)
    (HI0 : ∀ (s r : Int) (v1 v2 u1 u2 : Value) (x1 x2 y1 y2 : List Int) (W : World), Below w.heap.size w W → Sl .i64 W v1 x1 → Sl .i64 W v2 x2 → Sl .i64 W u1 y1 → Sl .i64 W u2 y2 → x1.length ≤ 1048576 → x2.length ≤ 1048576 → y1.length ≤ 1048576 → y2.length ≤ 1048576 → Calls Try.prog 30 #[.agg #[.int .i64 s, v1, v2], .agg #[.int .i64 r, u1, u2]] W fun e w' => e = .returned (.bool (s == r && x1 == y1 && x2 == y2)) ∧ Below W.heap.size W w') :
    Calls Try.prog 7 #[.agg #[.int .i64 s, .slice a1 x1.length c1, .slice a2 x2.length c2], .agg #[.int .i64 r, .slice b1 y1.length d1, .slice b2 y2.length d2]] w fun e w' => e = .returned (.bool true) ∧ Below w.heap.size w w' := by
  have HI := hid HI0
  have hA0 := (PL.new s 24 h1 h2).alloc (.cells #[.int .i64 r, .slice b1 y1.length d1, .slice b2 y2.length d2] 24)
  have hB0 := PL.boxed (w := w) r 24 (k1.later (bmore (Below.refl _ w) (.cells #[.int .i64 s, .slice a1 x1.length c1, .slice a2 x2.length c2] 24))) (k2.later (bmore (Below.refl _ w) (.cells #[.int .i64 s, .slice a1 x1.length c1, .slice a2 x2.length c2] 24))) (bmore (Below.refl _ w) _)
  rw [World.size_alloc] at hB0
  have HA := hid hA0
  have HB := hid hB0
  have HZ := hid (fun W => szLap_calls s 1048576 a1 a2 x1.length x2.length c1 c2 W m1 m2 (by omega) (by omega))
  have HY := hid (fun W left (q1 : 0 ≤ left) (q2 : left ≤ 1048576) => szLap_calls r left b1 b2 y1.length y2.length d1 d2 W n1 n2 q1 q2)
  clear HI0 h1 h2 m1 m2 k1 k2 n1 n2 hA0 hB0
  obtain ⟨p0, p1, p2, _⟩ := HA.out.p.three
  obtain ⟨q0, q1, q2, _⟩ := HB.out.p.three
  by_cases hbig : ((x1.length + x2.length : Nat) : Int) ≤ 1048576
  · rw [szV_yes hbig] at HZ
    have l1 : x1.length ≤ 1048576 := by omega
    have l2 : x2.length ≤ 1048576 := by omega
    have hz : 0 ≤ 1048576 - ((x1.length + x2.length : Nat) : Int) := by omega
    have hz2 : 1048576 - ((x1.length + x2.length : Nat) : Int) ≤ 1048576 := by omega
    clear hbig
    generalize 1048576 - ((x1.length + x2.length : Nat) : Int) = z at *
    have HY1 := hid (fun W => HY.out W z hz hz2)
    clear HY
    by_cases hbig2 : ((y1.length + y2.length : Nat) : Int) ≤ z
    · rw [szV_yes hbig2] at HY1
      have l3 : y1.length ≤ 1048576 := by omega
      have l4 : y2.length ≤ 1048576 := by omega
      have hz3 : 0 ≤ z - ((y1.length + y2.length : Nat) : Int) := by omega
      clear hbig2
      generalize z - ((y1.length + y2.length : Nat) : Int) = z2 at *
      go_enter Try.func7, Try.ntmps7
      go_wp2_with fail
      refine (HZ.out _).mono ?_
      rintro e w1 ⟨rfl, hb⟩
      have HA1 := hid (HA.out.later hb)
      have HB1 := hid (HB.out.later hb)
      clear hb HA HB p0 p1 p2 q0 q1 q2 HZ
      obtain ⟨q0, q1, q2, _⟩ := HB1.out.p.three
      go_wp2_with fail
      refine (HY1.out _).mono ?_
      rintro e w2 ⟨rfl, hb⟩
      have hHK : PL w w.heap.size s (.slice a1 x1.length c1) (.slice a2 x2.length c2) x1 x2 24 w2.drew ∧ PL w (w.heap.size + 1) r (.slice b1 y1.length d1) (.slice b2 y2.length d2) y1 y2 24 w2.drew := ⟨(HA1.out.later hb).drew, (HB1.out.later hb).drew⟩
      clear hb HA1 HB1 q0 q1 q2 HY1
      go_wp2_with fail
      refine wp_region_noPanic ?_
      refine wp_region_held_drew (S := fun W => PL w w.heap.size s (.slice a1 x1.length c1) (.slice a2 x2.length c2) x1 x2 24 W ∧ PL w (w.heap.size + 1) r (.slice b1 y1.length d1) (.slice b2 y2.length d2) y1 y2 24 W) (by kernel_rfl) ?_ (fun hHeld => ?_)
      · assumption
      (refine wpAnyH_take (i := 0) (v := ?_) rfl (by kernel_rfl) (by kernel_rfl) (by kernel_rfl) (fun _ _ _ h => h) (Or.inl ⟨by rfl, ?_⟩) hHeld ?_; rotate_left; (intro w hSw; (obtain ⟨p0, p1, p2, _⟩ := hSw.1.p.three; obtain ⟨q0, q1, q2, _⟩ := hSw.2.p.three; clear hSw); (go_simp <;> with_reducible rfl)); simp only [List.getElem_toArray, List.getElem_cons_zero, Act.put, List.setIfInBounds_toArray, List.set_cons_zero, List.set_cons_succ])
      (refine wpAnyH_take (i := 2) (v := ?_) rfl (by kernel_rfl) (by kernel_rfl) (by kernel_rfl) (fun _ _ _ h => h) (Or.inl ⟨by rfl, ?_⟩) hHeld ?_; rotate_left; (intro w hSw; (obtain ⟨p0, p1, p2, _⟩ := hSw.1.p.three; obtain ⟨q0, q1, q2, _⟩ := hSw.2.p.three; clear hSw); (go_simp <;> with_reducible rfl)); simp only [List.getElem_toArray, List.getElem_cons_zero, List.getElem_cons_succ, Act.put, List.setIfInBounds_toArray, List.set_cons_zero, List.set_cons_succ])
      (refine wpAnyH_ready (rs := [1]) (by kernel_rfl) (by simp) ?_; refine AllReadyH.cons rfl (fun K hK => ?_) AllReadyH.nil; go_simp; (refine (toLap_calls s _ _ x1 x2 _ hHeld.1.s1 hHeld.1.s2 l1 l2).mono ?_; rintro e w7 ⟨g5, g6, rfl, ho7, hb7⟩; have hK7 := And.intro (hHeld.1.later hb7) (hHeld.2.later hb7)); refine hK.out _ _ ?_ (fun hHeld => ?_); (assumption); clear hK K; try dsimp only)
      (refine wpAnyH_ready (rs := [3]) (by kernel_rfl) (by simp) ?_; refine AllReadyH.cons rfl (fun K hK => ?_) AllReadyH.nil; go_simp; (refine (toLap_calls r _ _ y1 y2 _ hHeld.2.s1 hHeld.2.s2 l3 l4).mono ?_; rintro e w8 ⟨g7, g8, rfl, ho8, hb8⟩; have hK8 := And.intro (hHeld.1.later hb8) (hHeld.2.later hb8)); refine hK.out _ _ ?_ (fun hHeld => ?_); (assumption); clear hK K; try dsimp only)
      (refine wpAnyH_ready (rs := [4]) (by kernel_rfl) (by simp) ?_; refine AllReadyH.cons rfl (fun K hK => ?_) AllReadyH.nil; go_simp; (refine (specSameLaps_calls s r _ _ _ _ x1 x2 y1 y2 _ (ho7.h1.sl.later hb8) (ho7.h2.sl.later hb8) ho8.h1.sl ho8.h2.sl l1 l2 l3 l4).mono ?_; rintro e w9 ⟨rfl, hb9⟩; have hK9 := And.intro (hHeld.1.later hb9) (hHeld.2.later hb9)); refine hK.out _ _ ?_ (fun hHeld => ?_); (assumption); clear hK K; try dsimp only)
      (refine wpAnyH_take (i := 5) (v := ?_) rfl (by kernel_rfl) (by kernel_rfl) (by kernel_rfl) (fun _ _ _ h => h) (Or.inl ⟨by rfl, ?_⟩) hHeld ?_; rotate_left; (intro w hSw; (obtain ⟨p0, p1, p2, _⟩ := hSw.1.p.three; obtain ⟨q0, q1, q2, _⟩ := hSw.2.p.three; clear hSw); (go_simp <;> with_reducible rfl)); simp only [List.getElem_toArray, List.getElem_cons_zero, List.getElem_cons_succ, Act.put, List.setIfInBounds_toArray, List.set_cons_zero, List.set_cons_succ])
      refine wpAnyH_done (by kernel_rfl) ?_ _
      refine NoPanic.normal ?_
      have HA9 := hid hHeld.1
      have HB9 := hid hHeld.2
      clear hHeld hK7 hK8 hK9 ho7 ho8 hb7 hb8 hb9 hHK
      generalize hbe : (s == r && x1 == y1 && x2 == y2) = bb at *
      have HBe := hid hbe
      clear hbe
      have hbb : (bb != bb) = false := by cases bb <;> rfl
      obtain ⟨p0, p1, p2, _⟩ := HA9.out.p.three
      go_wp2_with fail
      refine (toLap_calls s _ _ x1 x2 _ HA9.out.s1 HA9.out.s2 l1 l2).mono ?_
      rintro e w10 ⟨g9, g10, rfl, ho10, hb10⟩
      have HX := hid (PL.boxed s 27 ho10.h1.sl ho10.h2.sl (HA9.out.later hb10).l)
      have HA10 := hid ((HA9.out.later hb10).alloc (.cells #[.int .i64 s, .slice (some ⟨g9, 0, none⟩) x1.length x1.length, .slice (some ⟨g10, 0, none⟩) x2.length x2.length] 27))
      have HB10 := hid ((HB9.out.later hb10).alloc (.cells #[.int .i64 s, .slice (some ⟨g9, 0, none⟩) x1.length x1.length, .slice (some ⟨g10, 0, none⟩) x2.length x2.length] 27))
      have hlt10 := (HB9.out.later hb10).p.lt
      obtain ⟨q0, q1, q2, _⟩ := (HB9.out.later hb10).p.three
      clear ho10 hb10 HA9 HB9 p0 p1 p2
      go_wp2_with fail
      refine (toLap_calls r _ _ y1 y2 _ HB10.out.s1 HB10.out.s2 l3 l4).mono ?_
      rintro e w11 ⟨g11, g12, rfl, ho11, hb11⟩
      have HY := hid (PL.boxed r 27 ho11.h1.sl ho11.h2.sl (HA10.out.later hb11).l)
      have HX1 := hid ((HX.out.later hb11).alloc (.cells #[.int .i64 r, .slice (some ⟨g11, 0, none⟩) y1.length y1.length, .slice (some ⟨g12, 0, none⟩) y2.length y2.length] 27))
      have HA11 := hid ((HA10.out.later hb11).alloc (.cells #[.int .i64 r, .slice (some ⟨g11, 0, none⟩) y1.length y1.length, .slice (some ⟨g12, 0, none⟩) y2.length y2.length] 27))
      have HB11 := hid ((HB10.out.later hb11).alloc (.cells #[.int .i64 r, .slice (some ⟨g11, 0, none⟩) y1.length y1.length, .slice (some ⟨g12, 0, none⟩) y2.length y2.length] 27))
      obtain ⟨e0, e1, e2, _⟩ := (HX.out.later hb11).p.three
      have hlt11 := (HX.out.later hb11).p.lt
      clear ho11 hb11 HA10 HB10 HX q0 q1 q2 hlt10
      generalize w10.heap.size = BX at *
      go_wp2_with fail
      refine (HI.out s r _ _ _ _ x1 x2 y1 y2 _ HA11.out.l HX1.out.s1 HX1.out.s2 HY.out.s1 HY.out.s2 l1 l2 l3 l4).mono ?_
      rintro e w12 ⟨rfl, hb12⟩
      rw [HBe.out]
      have hQ : PL w w.heap.size s (.slice a1 x1.length c1) (.slice a2 x2.length c2) x1 x2 24 w12.drew ∧ PL w (w.heap.size + 1) r (.slice b1 y1.length d1) (.slice b2 y2.length d2) y1 y2 24 w12.drew ∧ PL w BX s (.slice (some ⟨g9, 0, none⟩) x1.length x1.length) (.slice (some ⟨g10, 0, none⟩) x2.length x2.length) x1 x2 27 w12.drew ∧ PL w w11.heap.size r (.slice (some ⟨g11, 0, none⟩) y1.length y1.length) (.slice (some ⟨g12, 0, none⟩) y2.length y2.length) y1 y2 27 w12.drew :=
        ⟨(HA11.out.later hb12).drew, (HB11.out.later hb12).drew, (HX1.out.later hb12).drew, (HY.out.later hb12).drew⟩
      clear hb12 HA11 HB11 HX1 HY e0 e1 e2 hlt11
      generalize w11.heap.size = BY at *
      go_wp2_with fail
      refine wp_region_noPanic ?_
      refine wp_region_held_drew (S := fun W => PL w w.heap.size s (.slice a1 x1.length c1) (.slice a2 x2.length c2) x1 x2 24 W ∧ PL w (w.heap.size + 1) r (.slice b1 y1.length d1) (.slice b2 y2.length d2) y1 y2 24 W ∧ PL w BX s (.slice (some ⟨g9, 0, none⟩) x1.length x1.length) (.slice (some ⟨g10, 0, none⟩) x2.length x2.length) x1 x2 27 W ∧ PL w BY r (.slice (some ⟨g11, 0, none⟩) y1.length y1.length) (.slice (some ⟨g12, 0, none⟩) y2.length y2.length) y1 y2 27 W) (by kernel_rfl) ?_ (fun hHeld => ?_)
      · assumption
      (refine wpAnyH_take (i := 0) (v := ?_) rfl (by kernel_rfl) (by kernel_rfl) (by kernel_rfl) (fun _ _ _ h => h) (Or.inl ⟨by rfl, ?_⟩) hHeld ?_; rotate_left; (intro w hSw; (obtain ⟨p0, p1, p2, _⟩ := hSw.1.p.three; obtain ⟨q0, q1, q2, _⟩ := hSw.2.2.1.p.three; clear hSw); (go_simp <;> with_reducible rfl)); simp only [List.getElem_toArray, List.getElem_cons_zero, Act.put, List.setIfInBounds_toArray, List.set_cons_zero, List.set_cons_succ])
      (refine wpAnyH_take (i := 1) (v := ?_) rfl (by kernel_rfl) (by kernel_rfl) (by kernel_rfl) (fun _ _ _ h => h) (Or.inl ⟨by rfl, ?_⟩) hHeld ?_; rotate_left; (intro w hSw; (obtain ⟨p0, p1, p2, _⟩ := hSw.1.p.three; obtain ⟨q0, q1, q2, _⟩ := hSw.2.2.1.p.three; clear hSw); (go_simp <;> with_reducible rfl)); simp only [List.getElem_toArray, List.getElem_cons_zero, List.getElem_cons_succ, Act.put, List.setIfInBounds_toArray, List.set_cons_zero, List.set_cons_succ])
      (refine wpAnyH_ready (rs := [2]) (by kernel_rfl) (by simp) ?_; refine AllReadyH.cons rfl (fun K hK => ?_) AllReadyH.nil; go_simp; (refine (toLap_calls s _ _ x1 x2 _ hHeld.1.s1 hHeld.1.s2 l1 l2).mono ?_; rintro e w7 ⟨g5, g6, rfl, ho7, hb7⟩; have hK7 := And.intro (hHeld.1.later hb7) (And.intro (hHeld.2.1.later hb7) (And.intro (hHeld.2.2.1.later hb7) (hHeld.2.2.2.later hb7)))); refine hK.out _ _ ?_ (fun hHeld => ?_); (assumption); clear hK K; try dsimp only)
      (refine wpAnyH_ready (rs := [3]) (by kernel_rfl) (by simp) ?_; refine AllReadyH.cons rfl (fun K hK => ?_) AllReadyH.nil; go_simp; (refine (eqLap_calls s _ _ _ _ x1 x2 _ hHeld.2.2.1.s1 hHeld.2.2.1.s2 ho7.h1.sl ho7.h2.sl l1 l2).mono ?_; rintro e w8 ⟨rfl, hb8⟩; have hK8 := And.intro (hHeld.1.later hb8) (And.intro (hHeld.2.1.later hb8) (And.intro (hHeld.2.2.1.later hb8) (hHeld.2.2.2.later hb8)))); refine hK.out _ _ ?_ (fun hHeld => ?_); (assumption); clear hK K; try dsimp only)
      (refine wpAnyH_take (i := 4) (v := ?_) rfl (by kernel_rfl) (by kernel_rfl) (by kernel_rfl) (fun _ _ _ h => h) (Or.inl ⟨by rfl, ?_⟩) hHeld ?_; rotate_left; (intro w hSw; (obtain ⟨p0, p1, p2, _⟩ := hSw.1.p.three; obtain ⟨q0, q1, q2, _⟩ := hSw.2.2.1.p.three; clear hSw); (go_simp <;> with_reducible rfl)); simp only [List.getElem_toArray, List.getElem_cons_zero, List.getElem_cons_succ, Act.put, List.setIfInBounds_toArray, List.set_cons_zero, List.set_cons_succ])
      refine wpAnyH_done (by kernel_rfl) ?_ _
      refine NoPanic.normal ?_
      have hR : PL w (w.heap.size + 1) r (.slice b1 y1.length d1) (.slice b2 y2.length d2) y1 y2 24 w8.drew ∧ PL w BY r (.slice (some ⟨g11, 0, none⟩) y1.length y1.length) (.slice (some ⟨g12, 0, none⟩) y2.length y2.length) y1 y2 27 w8.drew := ⟨hHeld.2.1.drew, hHeld.2.2.2.drew⟩
      clear hHeld hK7 hK8 ho7 hb7 hb8 hQ
      go_wp2_with fail
      refine wp_region_noPanic ?_
      refine wp_region_held_drew (S := fun W => PL w (w.heap.size + 1) r (.slice b1 y1.length d1) (.slice b2 y2.length d2) y1 y2 24 W ∧ PL w BY r (.slice (some ⟨g11, 0, none⟩) y1.length y1.length) (.slice (some ⟨g12, 0, none⟩) y2.length y2.length) y1 y2 27 W) (by kernel_rfl) ?_ (fun hHeld => ?_)
      · assumption
      (refine wpAnyH_take (i := 0) (v := ?_) rfl (by kernel_rfl) (by kernel_rfl) (by kernel_rfl) (fun _ _ _ h => h) (Or.inl ⟨by rfl, ?_⟩) hHeld ?_; rotate_left; (intro w hSw; (obtain ⟨p0, p1, p2, _⟩ := hSw.1.p.three; obtain ⟨q0, q1, q2, _⟩ := hSw.2.p.three; clear hSw); (go_simp <;> with_reducible rfl)); simp only [List.getElem_toArray, List.getElem_cons_zero, Act.put, List.setIfInBounds_toArray, List.set_cons_zero, List.set_cons_succ])
      (refine wpAnyH_take (i := 1) (v := ?_) rfl (by kernel_rfl) (by kernel_rfl) (by kernel_rfl) (fun _ _ _ h => h) (Or.inl ⟨by rfl, ?_⟩) hHeld ?_; rotate_left; (intro w hSw; (obtain ⟨p0, p1, p2, _⟩ := hSw.1.p.three; obtain ⟨q0, q1, q2, _⟩ := hSw.2.p.three; clear hSw); (go_simp <;> with_reducible rfl)); simp only [List.getElem_toArray, List.getElem_cons_zero, List.getElem_cons_succ, Act.put, List.setIfInBounds_toArray, List.set_cons_zero, List.set_cons_succ])
      (refine wpAnyH_ready (rs := [2]) (by kernel_rfl) (by simp) ?_; refine AllReadyH.cons rfl (fun K hK => ?_) AllReadyH.nil; go_simp; (refine (toLap_calls r _ _ y1 y2 _ hHeld.1.s1 hHeld.1.s2 l3 l4).mono ?_; rintro e w13 ⟨g13, g14, rfl, ho13, hb13⟩; have hK13 := And.intro (hHeld.1.later hb13) (hHeld.2.later hb13)); refine hK.out _ _ ?_ (fun hHeld => ?_); (assumption); clear hK K; try dsimp only)
      (refine wpAnyH_ready (rs := [3]) (by kernel_rfl) (by simp) ?_; refine AllReadyH.cons rfl (fun K hK => ?_) AllReadyH.nil; go_simp; (refine (eqLap_calls r _ _ _ _ y1 y2 _ hHeld.2.s1 hHeld.2.s2 ho13.h1.sl ho13.h2.sl l3 l4).mono ?_; rintro e w14 ⟨rfl, hb14⟩; have hK14 := And.intro (hHeld.1.later hb14) (hHeld.2.later hb14)); refine hK.out _ _ ?_ (fun hHeld => ?_); (assumption); clear hK K; try dsimp only)
      (refine wpAnyH_take (i := 4) (v := ?_) rfl (by kernel_rfl) (by kernel_rfl) (by kernel_rfl) (fun _ _ _ h => h) (Or.inl ⟨by rfl, ?_⟩) hHeld ?_; rotate_left; (intro w hSw; (obtain ⟨p0, p1, p2, _⟩ := hSw.1.p.three; obtain ⟨q0, q1, q2, _⟩ := hSw.2.p.three; clear hSw); (go_simp <;> with_reducible rfl)); simp only [List.getElem_toArray, List.getElem_cons_zero, List.getElem_cons_succ, Act.put, List.setIfInBounds_toArray, List.set_cons_zero, List.set_cons_succ])
      refine wpAnyH_done (by kernel_rfl) ?_ _
      refine NoPanic.normal ?_
      have HL := hid hHeld.1.l
      clear hHeld hK13 hK14
      go_wp2
      go_ret
      exact ⟨rfl, HL.out⟩
    · rw [szV_no hbig2] at HY1
      clear hbig2
      go_enter Try.func7, Try.ntmps7
      go_wp2_with fail
      refine (HZ.out _).mono ?_
      rintro e w1 ⟨rfl, hb⟩
      have HB1 := hid (HB.out.later hb)
      clear hb HA HB p0 p1 p2 q0 q1 q2 HZ
      obtain ⟨q0, q1, q2, _⟩ := HB1.out.p.three
      go_wp2_with fail
      refine (HY1.out _).mono ?_
      rintro e w2 ⟨rfl, hb⟩
      have HL := hid (bthen HB1.out.l hb)
      clear hb HB1 q0 q1 q2 HY1
      go_wp2
      go_ret
      exact ⟨rfl, HL.out⟩
  · rw [szV_no hbig] at HZ
    clear hbig HY
    go_enter Try.func7, Try.ntmps7
    go_wp2_with fail
    refine (HZ.out _).mono ?_
    rintro e w1 ⟨rfl, hb⟩
    have HL := hid (bthen HA.out.l hb)
    clear hb HA HB p0 p1 p2 q0 q1 q2 HZ
    go_wp2
    go_ret
    exact ⟨rfl, HL.out⟩
set_option maxHeartbeats 4000000 in
theorem exactSameSynths_calls (s : Int) (a1 a2 : Option Addr) (c1 c2 : Nat) (x1 x2 : List Int) (r : Int) (b1 b2 : Option Addr) (d1 d2 : Nat) (y1 y2 : List Int) (w : World) (h1 : Sl .i64 w (.slice a1 x1.length c1) x1) (h2 : Sl .i64 w (.slice a2 x2.length c2) x2) (m1 : x1.length ≤ maxLen) (m2 : x2.length ≤ maxLen) (k1 : Sl .i64 w (.slice b1 y1.length d1) y1) (k2 : Sl .i64 w (.slice b2 y2.length d2) y2) (n1 : y1.length ≤ maxLen) (n2 : y2.length ≤ maxLen)
    (HI0 : ∀ (s r : Int) (v1 v2 u1 u2 : Value) (x1 x2 y1 y2 : List Int) (W : World), Below w.heap.size w W → Sl .i64 W v1 x1 → Sl .i64 W v2 x2 → Sl .i64 W u1 y1 → Sl .i64 W u2 y2 → x1.length ≤ 1048576 → x2.length ≤ 1048576 → y1.length ≤ 1048576 → y2.length ≤ 1048576 → Calls Try.prog 32 #[.agg #[.int .i64 s, v1, v2], .agg #[.int .i64 r, u1, u2]] W fun e w' => e = .returned (.bool (s == r && x1 == y1 && x2 == y2)) ∧ Below W.heap.size W w') :
    Calls Try.prog 8 #[.agg #[.int .i64 s, .slice a1 x1.length c1, .slice a2 x2.length c2], .agg #[.int .i64 r, .slice b1 y1.length d1, .slice b2 y2.length d2]] w fun e w' => e = .returned (.bool true) ∧ Below w.heap.size w w' := by
  have HI := hid HI0
  have hA0 := (PL.new s 38 h1 h2).alloc (.cells #[.int .i64 r, .slice b1 y1.length d1, .slice b2 y2.length d2] 38)
  have hB0 := PL.boxed (w := w) r 38 (k1.later (bmore (Below.refl _ w) (.cells #[.int .i64 s, .slice a1 x1.length c1, .slice a2 x2.length c2] 38))) (k2.later (bmore (Below.refl _ w) (.cells #[.int .i64 s, .slice a1 x1.length c1, .slice a2 x2.length c2] 38))) (bmore (Below.refl _ w) _)
  rw [World.size_alloc] at hB0
  have HA := hid hA0
  have HB := hid hB0
  have HZ := hid (fun W => szSynth_calls s 1048576 a1 a2 x1.length x2.length c1 c2 W m1 m2 (by omega) (by omega))
  have HY := hid (fun W left (q1 : 0 ≤ left) (q2 : left ≤ 1048576) => szSynth_calls r left b1 b2 y1.length y2.length d1 d2 W n1 n2 q1 q2)
  clear HI0 h1 h2 m1 m2 k1 k2 n1 n2 hA0 hB0
  obtain ⟨p0, p1, p2, _⟩ := HA.out.p.three
  obtain ⟨q0, q1, q2, _⟩ := HB.out.p.three
  by_cases hbig : ((x1.length + x2.length : Nat) : Int) ≤ 1048576
  · rw [szV_yes hbig] at HZ
    have l1 : x1.length ≤ 1048576 := by omega
    have l2 : x2.length ≤ 1048576 := by omega
    have hz : 0 ≤ 1048576 - ((x1.length + x2.length : Nat) : Int) := by omega
    have hz2 : 1048576 - ((x1.length + x2.length : Nat) : Int) ≤ 1048576 := by omega
    clear hbig
    generalize 1048576 - ((x1.length + x2.length : Nat) : Int) = z at *
    have HY1 := hid (fun W => HY.out W z hz hz2)
    clear HY
    by_cases hbig2 : ((y1.length + y2.length : Nat) : Int) ≤ z
    · rw [szV_yes hbig2] at HY1
      have l3 : y1.length ≤ 1048576 := by omega
      have l4 : y2.length ≤ 1048576 := by omega
      have hz3 : 0 ≤ z - ((y1.length + y2.length : Nat) : Int) := by omega
      clear hbig2
      generalize z - ((y1.length + y2.length : Nat) : Int) = z2 at *
      go_enter Try.func8, Try.ntmps8
      go_wp2_with fail
      refine (HZ.out _).mono ?_
      rintro e w1 ⟨rfl, hb⟩
      have HA1 := hid (HA.out.later hb)
      have HB1 := hid (HB.out.later hb)
      clear hb HA HB p0 p1 p2 q0 q1 q2 HZ
      obtain ⟨q0, q1, q2, _⟩ := HB1.out.p.three
      go_wp2_with fail
      refine (HY1.out _).mono ?_
      rintro e w2 ⟨rfl, hb⟩
      have hHK : PL w w.heap.size s (.slice a1 x1.length c1) (.slice a2 x2.length c2) x1 x2 38 w2.drew ∧ PL w (w.heap.size + 1) r (.slice b1 y1.length d1) (.slice b2 y2.length d2) y1 y2 38 w2.drew := ⟨(HA1.out.later hb).drew, (HB1.out.later hb).drew⟩
      clear hb HA1 HB1 q0 q1 q2 HY1
      go_wp2_with fail
      refine wp_region_noPanic ?_
      refine wp_region_held_drew (S := fun W => PL w w.heap.size s (.slice a1 x1.length c1) (.slice a2 x2.length c2) x1 x2 38 W ∧ PL w (w.heap.size + 1) r (.slice b1 y1.length d1) (.slice b2 y2.length d2) y1 y2 38 W) (by kernel_rfl) ?_ (fun hHeld => ?_)
      · assumption
      (refine wpAnyH_take (i := 0) (v := ?_) rfl (by kernel_rfl) (by kernel_rfl) (by kernel_rfl) (fun _ _ _ h => h) (Or.inl ⟨by rfl, ?_⟩) hHeld ?_; rotate_left; (intro w hSw; (obtain ⟨p0, p1, p2, _⟩ := hSw.1.p.three; obtain ⟨q0, q1, q2, _⟩ := hSw.2.p.three; clear hSw); (go_simp <;> with_reducible rfl)); simp only [List.getElem_toArray, List.getElem_cons_zero, Act.put, List.setIfInBounds_toArray, List.set_cons_zero, List.set_cons_succ])
      (refine wpAnyH_take (i := 2) (v := ?_) rfl (by kernel_rfl) (by kernel_rfl) (by kernel_rfl) (fun _ _ _ h => h) (Or.inl ⟨by rfl, ?_⟩) hHeld ?_; rotate_left; (intro w hSw; (obtain ⟨p0, p1, p2, _⟩ := hSw.1.p.three; obtain ⟨q0, q1, q2, _⟩ := hSw.2.p.three; clear hSw); (go_simp <;> with_reducible rfl)); simp only [List.getElem_toArray, List.getElem_cons_zero, List.getElem_cons_succ, Act.put, List.setIfInBounds_toArray, List.set_cons_zero, List.set_cons_succ])
      (refine wpAnyH_ready (rs := [1]) (by kernel_rfl) (by simp) ?_; refine AllReadyH.cons rfl (fun K hK => ?_) AllReadyH.nil; go_simp; (refine (toSynth_calls s _ _ x1 x2 _ hHeld.1.s1 hHeld.1.s2 l1 l2).mono ?_; rintro e w7 ⟨g5, g6, rfl, ho7, hb7⟩; have hK7 := And.intro (hHeld.1.later hb7) (hHeld.2.later hb7)); refine hK.out _ _ ?_ (fun hHeld => ?_); (assumption); clear hK K; try dsimp only)
      (refine wpAnyH_ready (rs := [3]) (by kernel_rfl) (by simp) ?_; refine AllReadyH.cons rfl (fun K hK => ?_) AllReadyH.nil; go_simp; (refine (toSynth_calls r _ _ y1 y2 _ hHeld.2.s1 hHeld.2.s2 l3 l4).mono ?_; rintro e w8 ⟨g7, g8, rfl, ho8, hb8⟩; have hK8 := And.intro (hHeld.1.later hb8) (hHeld.2.later hb8)); refine hK.out _ _ ?_ (fun hHeld => ?_); (assumption); clear hK K; try dsimp only)
      (refine wpAnyH_ready (rs := [4]) (by kernel_rfl) (by simp) ?_; refine AllReadyH.cons rfl (fun K hK => ?_) AllReadyH.nil; go_simp; (refine (specSameSynths_calls s r _ _ _ _ x1 x2 y1 y2 _ (ho7.h1.sl.later hb8) (ho7.h2.sl.later hb8) ho8.h1.sl ho8.h2.sl l1 l2 l3 l4).mono ?_; rintro e w9 ⟨rfl, hb9⟩; have hK9 := And.intro (hHeld.1.later hb9) (hHeld.2.later hb9)); refine hK.out _ _ ?_ (fun hHeld => ?_); (assumption); clear hK K; try dsimp only)
      (refine wpAnyH_take (i := 5) (v := ?_) rfl (by kernel_rfl) (by kernel_rfl) (by kernel_rfl) (fun _ _ _ h => h) (Or.inl ⟨by rfl, ?_⟩) hHeld ?_; rotate_left; (intro w hSw; (obtain ⟨p0, p1, p2, _⟩ := hSw.1.p.three; obtain ⟨q0, q1, q2, _⟩ := hSw.2.p.three; clear hSw); (go_simp <;> with_reducible rfl)); simp only [List.getElem_toArray, List.getElem_cons_zero, List.getElem_cons_succ, Act.put, List.setIfInBounds_toArray, List.set_cons_zero, List.set_cons_succ])
      refine wpAnyH_done (by kernel_rfl) ?_ _
      refine NoPanic.normal ?_
      have HA9 := hid hHeld.1
      have HB9 := hid hHeld.2
      clear hHeld hK7 hK8 hK9 ho7 ho8 hb7 hb8 hb9 hHK
      generalize hbe : (s == r && x1 == y1 && x2 == y2) = bb at *
      have HBe := hid hbe
      clear hbe
      have hbb : (bb != bb) = false := by cases bb <;> rfl
      obtain ⟨p0, p1, p2, _⟩ := HA9.out.p.three
      go_wp2_with fail
      refine (toSynth_calls s _ _ x1 x2 _ HA9.out.s1 HA9.out.s2 l1 l2).mono ?_
      rintro e w10 ⟨g9, g10, rfl, ho10, hb10⟩
      have HX := hid (PL.boxed s 41 ho10.h1.sl ho10.h2.sl (HA9.out.later hb10).l)
      have HA10 := hid ((HA9.out.later hb10).alloc (.cells #[.int .i64 s, .slice (some ⟨g9, 0, none⟩) x1.length x1.length, .slice (some ⟨g10, 0, none⟩) x2.length x2.length] 41))
      have HB10 := hid ((HB9.out.later hb10).alloc (.cells #[.int .i64 s, .slice (some ⟨g9, 0, none⟩) x1.length x1.length, .slice (some ⟨g10, 0, none⟩) x2.length x2.length] 41))
      have hlt10 := (HB9.out.later hb10).p.lt
      obtain ⟨q0, q1, q2, _⟩ := (HB9.out.later hb10).p.three
      clear ho10 hb10 HA9 HB9 p0 p1 p2
      go_wp2_with fail
      refine (toSynth_calls r _ _ y1 y2 _ HB10.out.s1 HB10.out.s2 l3 l4).mono ?_
      rintro e w11 ⟨g11, g12, rfl, ho11, hb11⟩
      have HY := hid (PL.boxed r 41 ho11.h1.sl ho11.h2.sl (HA10.out.later hb11).l)
      have HX1 := hid ((HX.out.later hb11).alloc (.cells #[.int .i64 r, .slice (some ⟨g11, 0, none⟩) y1.length y1.length, .slice (some ⟨g12, 0, none⟩) y2.length y2.length] 41))
      have HA11 := hid ((HA10.out.later hb11).alloc (.cells #[.int .i64 r, .slice (some ⟨g11, 0, none⟩) y1.length y1.length, .slice (some ⟨g12, 0, none⟩) y2.length y2.length] 41))
      have HB11 := hid ((HB10.out.later hb11).alloc (.cells #[.int .i64 r, .slice (some ⟨g11, 0, none⟩) y1.length y1.length, .slice (some ⟨g12, 0, none⟩) y2.length y2.length] 41))
      obtain ⟨e0, e1, e2, _⟩ := (HX.out.later hb11).p.three
      have hlt11 := (HX.out.later hb11).p.lt
      clear ho11 hb11 HA10 HB10 HX q0 q1 q2 hlt10
      generalize w10.heap.size = BX at *
      go_wp2_with fail
      refine (HI.out s r _ _ _ _ x1 x2 y1 y2 _ HA11.out.l HX1.out.s1 HX1.out.s2 HY.out.s1 HY.out.s2 l1 l2 l3 l4).mono ?_
      rintro e w12 ⟨rfl, hb12⟩
      rw [HBe.out]
      have hQ : PL w w.heap.size s (.slice a1 x1.length c1) (.slice a2 x2.length c2) x1 x2 38 w12.drew ∧ PL w (w.heap.size + 1) r (.slice b1 y1.length d1) (.slice b2 y2.length d2) y1 y2 38 w12.drew ∧ PL w BX s (.slice (some ⟨g9, 0, none⟩) x1.length x1.length) (.slice (some ⟨g10, 0, none⟩) x2.length x2.length) x1 x2 41 w12.drew ∧ PL w w11.heap.size r (.slice (some ⟨g11, 0, none⟩) y1.length y1.length) (.slice (some ⟨g12, 0, none⟩) y2.length y2.length) y1 y2 41 w12.drew :=
        ⟨(HA11.out.later hb12).drew, (HB11.out.later hb12).drew, (HX1.out.later hb12).drew, (HY.out.later hb12).drew⟩
      clear hb12 HA11 HB11 HX1 HY e0 e1 e2 hlt11
      generalize w11.heap.size = BY at *
      go_wp2_with fail
      refine wp_region_noPanic ?_
      refine wp_region_held_drew (S := fun W => PL w w.heap.size s (.slice a1 x1.length c1) (.slice a2 x2.length c2) x1 x2 38 W ∧ PL w (w.heap.size + 1) r (.slice b1 y1.length d1) (.slice b2 y2.length d2) y1 y2 38 W ∧ PL w BX s (.slice (some ⟨g9, 0, none⟩) x1.length x1.length) (.slice (some ⟨g10, 0, none⟩) x2.length x2.length) x1 x2 41 W ∧ PL w BY r (.slice (some ⟨g11, 0, none⟩) y1.length y1.length) (.slice (some ⟨g12, 0, none⟩) y2.length y2.length) y1 y2 41 W) (by kernel_rfl) ?_ (fun hHeld => ?_)
      · assumption
      (refine wpAnyH_take (i := 0) (v := ?_) rfl (by kernel_rfl) (by kernel_rfl) (by kernel_rfl) (fun _ _ _ h => h) (Or.inl ⟨by rfl, ?_⟩) hHeld ?_; rotate_left; (intro w hSw; (obtain ⟨p0, p1, p2, _⟩ := hSw.1.p.three; obtain ⟨q0, q1, q2, _⟩ := hSw.2.2.1.p.three; clear hSw); (go_simp <;> with_reducible rfl)); simp only [List.getElem_toArray, List.getElem_cons_zero, Act.put, List.setIfInBounds_toArray, List.set_cons_zero, List.set_cons_succ])
      (refine wpAnyH_take (i := 1) (v := ?_) rfl (by kernel_rfl) (by kernel_rfl) (by kernel_rfl) (fun _ _ _ h => h) (Or.inl ⟨by rfl, ?_⟩) hHeld ?_; rotate_left; (intro w hSw; (obtain ⟨p0, p1, p2, _⟩ := hSw.1.p.three; obtain ⟨q0, q1, q2, _⟩ := hSw.2.2.1.p.three; clear hSw); (go_simp <;> with_reducible rfl)); simp only [List.getElem_toArray, List.getElem_cons_zero, List.getElem_cons_succ, Act.put, List.setIfInBounds_toArray, List.set_cons_zero, List.set_cons_succ])
      (refine wpAnyH_ready (rs := [2]) (by kernel_rfl) (by simp) ?_; refine AllReadyH.cons rfl (fun K hK => ?_) AllReadyH.nil; go_simp; (refine (toSynth_calls s _ _ x1 x2 _ hHeld.1.s1 hHeld.1.s2 l1 l2).mono ?_; rintro e w7 ⟨g5, g6, rfl, ho7, hb7⟩; have hK7 := And.intro (hHeld.1.later hb7) (And.intro (hHeld.2.1.later hb7) (And.intro (hHeld.2.2.1.later hb7) (hHeld.2.2.2.later hb7)))); refine hK.out _ _ ?_ (fun hHeld => ?_); (assumption); clear hK K; try dsimp only)
      (refine wpAnyH_ready (rs := [3]) (by kernel_rfl) (by simp) ?_; refine AllReadyH.cons rfl (fun K hK => ?_) AllReadyH.nil; go_simp; (refine (eqSynth_calls s _ _ _ _ x1 x2 _ hHeld.2.2.1.s1 hHeld.2.2.1.s2 ho7.h1.sl ho7.h2.sl l1 l2).mono ?_; rintro e w8 ⟨rfl, hb8⟩; have hK8 := And.intro (hHeld.1.later hb8) (And.intro (hHeld.2.1.later hb8) (And.intro (hHeld.2.2.1.later hb8) (hHeld.2.2.2.later hb8)))); refine hK.out _ _ ?_ (fun hHeld => ?_); (assumption); clear hK K; try dsimp only)
      (refine wpAnyH_take (i := 4) (v := ?_) rfl (by kernel_rfl) (by kernel_rfl) (by kernel_rfl) (fun _ _ _ h => h) (Or.inl ⟨by rfl, ?_⟩) hHeld ?_; rotate_left; (intro w hSw; (obtain ⟨p0, p1, p2, _⟩ := hSw.1.p.three; obtain ⟨q0, q1, q2, _⟩ := hSw.2.2.1.p.three; clear hSw); (go_simp <;> with_reducible rfl)); simp only [List.getElem_toArray, List.getElem_cons_zero, List.getElem_cons_succ, Act.put, List.setIfInBounds_toArray, List.set_cons_zero, List.set_cons_succ])
      refine wpAnyH_done (by kernel_rfl) ?_ _
      refine NoPanic.normal ?_
      have hR : PL w (w.heap.size + 1) r (.slice b1 y1.length d1) (.slice b2 y2.length d2) y1 y2 38 w8.drew ∧ PL w BY r (.slice (some ⟨g11, 0, none⟩) y1.length y1.length) (.slice (some ⟨g12, 0, none⟩) y2.length y2.length) y1 y2 41 w8.drew := ⟨hHeld.2.1.drew, hHeld.2.2.2.drew⟩
      clear hHeld hK7 hK8 ho7 hb7 hb8 hQ
      go_wp2_with fail
      refine wp_region_noPanic ?_
      refine wp_region_held_drew (S := fun W => PL w (w.heap.size + 1) r (.slice b1 y1.length d1) (.slice b2 y2.length d2) y1 y2 38 W ∧ PL w BY r (.slice (some ⟨g11, 0, none⟩) y1.length y1.length) (.slice (some ⟨g12, 0, none⟩) y2.length y2.length) y1 y2 41 W) (by kernel_rfl) ?_ (fun hHeld => ?_)
      · assumption
      (refine wpAnyH_take (i := 0) (v := ?_) rfl (by kernel_rfl) (by kernel_rfl) (by kernel_rfl) (fun _ _ _ h => h) (Or.inl ⟨by rfl, ?_⟩) hHeld ?_; rotate_left; (intro w hSw; (obtain ⟨p0, p1, p2, _⟩ := hSw.1.p.three; obtain ⟨q0, q1, q2, _⟩ := hSw.2.p.three; clear hSw); (go_simp <;> with_reducible rfl)); simp only [List.getElem_toArray, List.getElem_cons_zero, Act.put, List.setIfInBounds_toArray, List.set_cons_zero, List.set_cons_succ])
      (refine wpAnyH_take (i := 1) (v := ?_) rfl (by kernel_rfl) (by kernel_rfl) (by kernel_rfl) (fun _ _ _ h => h) (Or.inl ⟨by rfl, ?_⟩) hHeld ?_; rotate_left; (intro w hSw; (obtain ⟨p0, p1, p2, _⟩ := hSw.1.p.three; obtain ⟨q0, q1, q2, _⟩ := hSw.2.p.three; clear hSw); (go_simp <;> with_reducible rfl)); simp only [List.getElem_toArray, List.getElem_cons_zero, List.getElem_cons_succ, Act.put, List.setIfInBounds_toArray, List.set_cons_zero, List.set_cons_succ])
      (refine wpAnyH_ready (rs := [2]) (by kernel_rfl) (by simp) ?_; refine AllReadyH.cons rfl (fun K hK => ?_) AllReadyH.nil; go_simp; (refine (toSynth_calls r _ _ y1 y2 _ hHeld.1.s1 hHeld.1.s2 l3 l4).mono ?_; rintro e w13 ⟨g13, g14, rfl, ho13, hb13⟩; have hK13 := And.intro (hHeld.1.later hb13) (hHeld.2.later hb13)); refine hK.out _ _ ?_ (fun hHeld => ?_); (assumption); clear hK K; try dsimp only)
      (refine wpAnyH_ready (rs := [3]) (by kernel_rfl) (by simp) ?_; refine AllReadyH.cons rfl (fun K hK => ?_) AllReadyH.nil; go_simp; (refine (eqSynth_calls r _ _ _ _ y1 y2 _ hHeld.2.s1 hHeld.2.s2 ho13.h1.sl ho13.h2.sl l3 l4).mono ?_; rintro e w14 ⟨rfl, hb14⟩; have hK14 := And.intro (hHeld.1.later hb14) (hHeld.2.later hb14)); refine hK.out _ _ ?_ (fun hHeld => ?_); (assumption); clear hK K; try dsimp only)
      (refine wpAnyH_take (i := 4) (v := ?_) rfl (by kernel_rfl) (by kernel_rfl) (by kernel_rfl) (fun _ _ _ h => h) (Or.inl ⟨by rfl, ?_⟩) hHeld ?_; rotate_left; (intro w hSw; (obtain ⟨p0, p1, p2, _⟩ := hSw.1.p.three; obtain ⟨q0, q1, q2, _⟩ := hSw.2.p.three; clear hSw); (go_simp <;> with_reducible rfl)); simp only [List.getElem_toArray, List.getElem_cons_zero, List.getElem_cons_succ, Act.put, List.setIfInBounds_toArray, List.set_cons_zero, List.set_cons_succ])
      refine wpAnyH_done (by kernel_rfl) ?_ _
      refine NoPanic.normal ?_
      have HL := hid hHeld.1.l
      clear hHeld hK13 hK14
      go_wp2
      go_ret
      exact ⟨rfl, HL.out⟩
    · rw [szV_no hbig2] at HY1
      clear hbig2
      go_enter Try.func8, Try.ntmps8
      go_wp2_with fail
      refine (HZ.out _).mono ?_
      rintro e w1 ⟨rfl, hb⟩
      have HB1 := hid (HB.out.later hb)
      clear hb HA HB p0 p1 p2 q0 q1 q2 HZ
      obtain ⟨q0, q1, q2, _⟩ := HB1.out.p.three
      go_wp2_with fail
      refine (HY1.out _).mono ?_
      rintro e w2 ⟨rfl, hb⟩
      have HL := hid (bthen HB1.out.l hb)
      clear hb HB1 q0 q1 q2 HY1
      go_wp2
      go_ret
      exact ⟨rfl, HL.out⟩
  · rw [szV_no hbig] at HZ
    clear hbig HY
    go_enter Try.func8, Try.ntmps8
    go_wp2_with fail
    refine (HZ.out _).mono ?_
    rintro e w1 ⟨rfl, hb⟩
    have HL := hid (bthen HA.out.l hb)
    clear hb HA HB p0 p1 p2 q0 q1 q2 HZ
    go_wp2
    go_ret
    exact ⟨rfl, HL.out⟩
end Go.Proofs.Ytonpffmncghkaaa.ExLs
