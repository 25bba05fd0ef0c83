/- The walks through the exact laws of faults of laps and synths, and of whether two are the same, for a program that answers by the common answers. Condition: the program's own contract, wherever nothing that was there before has turned. -/
import Derived.Test.YtonpffmncghkaaaLapZ
import Derived.Deep.RegionHeld3
namespace Go.Proofs.Ytonpffmncghkaaa.ExLf
open Go.ChangeShapes Go.WideShapes Go.ChangeAt Go.RowKit Go.Proofs.Ytonpffmncghkaaa.Num Go.Proofs.Ytonpffmncghkaaa.Sli Go.Proofs.Ytonpffmncghkaaa.App Go.Proofs.Ytonpffmncghkaaa.Blk Go.Proofs.Ytonpffmncghkaaa.LapM Go.Proofs.Ytonpffmncghkaaa.IntL Go.Proofs.Ytonpffmncghkaaa.OwsG Go.Proofs.Ytonpffmncghkaaa.LapS Go.Proofs.Ytonpffmncghkaaa.LapX Go.Proofs.Ytonpffmncghkaaa.LapY Go.Proofs.Ytonpffmncghkaaa.LapZ

/-- A lap or a synth in its block, and what its lists hold. -/
structure PL (w : World) (b : Nat) (s : Int) (v1 v2 : Value) (x1 x2 : List Int) (t : TypeId) (W : World) : Prop where
  p : Blk W b #[.int .i64 s, v1, v2] t
  s1 : Sl .i64 W v1 x1
  s2 : Sl .i64 W v2 x2
  l : Below w.heap.size w W
section
variable {w W W' : World} {b : Nat} {s : Int} {v1 v2 : Value} {x1 x2 : List Int} {t : TypeId}
theorem PL.later (h : PL w b s v1 v2 x1 x2 t W) (hb : Below W.heap.size W W') : PL w b s v1 v2 x1 x2 t W' := ⟨h.p.later hb, h.s1.later hb, h.s2.later hb, bthen h.l hb⟩
theorem PL.alloc (h : PL w b s v1 v2 x1 x2 t W) (o : Obj) : PL w b s v1 v2 x1 x2 t (W.alloc o) := h.later (bmore (Below.refl _ _) o)
theorem PL.drew (h : PL w b s v1 v2 x1 x2 t W) : PL w b s v1 v2 x1 x2 t W.drew := ⟨h.p, h.s1, h.s2, h.l.drew⟩
theorem PL.new (s : Int) (t : TypeId) (h1 : Sl .i64 w v1 x1) (h2 : Sl .i64 w v2 x2) : PL w w.heap.size s v1 v2 x1 x2 t (w.alloc (.cells #[.int .i64 s, v1, v2] t)) :=
  let hb := bmore (Below.refl _ w) (.cells #[.int .i64 s, v1, v2] t)
  ⟨Blk.new _ _ _, h1.later hb, h2.later hb, hb⟩
/-- A copy that was just boxed. -/
theorem PL.boxed {w1 : World} (s : Int) (t : TypeId) (h1 : Sl .i64 w1 v1 x1) (h2 : Sl .i64 w1 v2 x2) (hl : Below w.heap.size w w1) : PL w w1.heap.size s v1 v2 x1 x2 t (w1.alloc (.cells #[.int .i64 s, v1, v2] t)) :=
  let hb := bmore (Below.refl _ w1) (.cells #[.int .i64 s, v1, v2] t)
  ⟨Blk.new _ _ _, h1.later hb, h2.later hb, bthen hl hb⟩
end
set_option maxHeartbeats 2000000 in
theorem exactLapFault_calls (s : Int) (a1 a2 : Option Addr) (c1 c2 : Nat) (x1 x2 : List Int) (w : World) (h1 : Sl .i64 w (.slice a1 x1.length c1) x1) (h2 : Sl .i64 w (.slice a2 x2.length c2) x2) (m1 : x1.length ≤ maxLen) (m2 : x2.length ≤ maxLen)
    (HI0 : ∀ (s : Int) (v1 v2 : Value) (x1 x2 : List Int) (W : World), Below w.heap.size w W → Sl .i64 W v1 x1 → Sl .i64 W v2 x2 → x1.length ≤ 1048576 → x2.length ≤ 1048576 → Calls Try.prog 12 #[.agg #[.int .i64 s, v1, v2]] W fun e w' => e = .returned (.int .i64 (lfC s x1 x2)) ∧ Below W.heap.size W w') :
    Calls Try.prog 3 #[.agg #[.int .i64 s, .slice a1 x1.length c1, .slice a2 x2.length c2]] w fun e w' => e = .returned (.bool true) ∧ Below w.heap.size w w' := by
  have HI := hid HI0
  have HP := hid (PL.new s 24 h1 h2)
  have HZ := hid (fun W => szLap_calls s 1048576 a1 a2 x1.length x2.length c1 c2 W m1 m2 (by omega) (by omega))
  clear HI0 h1 h2 m1 m2
  obtain ⟨p0, p1, p2, _⟩ := HP.out.p.three
  by_cases hbig : ((x1.length + x2.length : Nat) : Int) ≤ 1048576
  · rw [szV_yes hbig] at HZ
    have l1 : x1.length ≤ 1048576 := by omega
    have l2 : x2.length ≤ 1048576 := by omega
    have hz : 0 ≤ 1048576 - ((x1.length + x2.length : Nat) : Int) := by omega
    clear hbig
    generalize 1048576 - ((x1.length + x2.length : Nat) : Int) = z at *
    go_enter Try.func3, Try.ntmps3
    go_wp2_with fail
    refine (HZ.out _).mono ?_
    rintro e w1 ⟨rfl, hb⟩
    have HP1 := hid (HP.out.later hb)
    clear hb HP p0 p1 p2 HZ
    obtain ⟨p0, p1, p2, _⟩ := HP1.out.p.three
    go_wp2_with fail
    refine (toLap_calls s _ _ x1 x2 _ HP1.out.s1 HP1.out.s2 l1 l2).mono ?_
    rintro e w2 ⟨g1, g2, rfl, ho, hb⟩
    have HP2 := hid (HP1.out.later hb)
    clear hb HP1 p0 p1 p2
    go_wp2_with fail
    refine (specLapFault_calls s _ _ x1 x2 _ ho.h1.sl ho.h2.sl l1 l2).mono ?_
    rintro e w3 ⟨rfl, hb⟩
    have HP3 := hid (HP2.out.later hb)
    clear hb HP2 ho
    obtain ⟨p0, p1, p2, _⟩ := HP3.out.p.three
    go_wp2_with fail
    refine (toLap_calls s _ _ x1 x2 _ HP3.out.s1 HP3.out.s2 l1 l2).mono ?_
    rintro e w4 ⟨g3, g4, rfl, ho, hb⟩
    have HP4 := hid ((HP3.out.later hb).alloc (.cells #[.int .i64 s, .slice (some ⟨g3, 0, none⟩) x1.length x1.length, .slice (some ⟨g4, 0, none⟩) x2.length x2.length] 27))
    have HX4 := hid (PL.boxed s 27 ho.h1.sl ho.h2.sl (HP3.out.later hb).l)
    clear hb HP3 ho p0 p1 p2
    go_wp2_with fail
    refine (HI.out s _ _ x1 x2 _ HP4.out.l HX4.out.s1 HX4.out.s2 l1 l2).mono ?_
    rintro e w6 ⟨rfl, hb⟩
    have hHK : PL w w.heap.size s (.slice a1 x1.length c1) (.slice a2 x2.length c2) x1 x2 24 w6.drew ∧ PL w w4.heap.size s (.slice (some ⟨g3, 0, none⟩) x1.length x1.length) (.slice (some ⟨g4, 0, none⟩) x2.length x2.length) x1 x2 27 w6.drew := ⟨(HP4.out.later hb).drew, (HX4.out.later hb).drew⟩
    clear hb HP4 HX4
    generalize w4.heap.size = B4 at *
    generalize lfC s x1 x2 = c at *
    go_wp2_with fail
    refine wp_region_noPanic ?_
    refine wp_region_held_drew (S := fun W => PL w w.heap.size s (.slice a1 x1.length c1) (.slice a2 x2.length c2) x1 x2 24 W ∧ PL w B4 s (.slice (some ⟨g3, 0, none⟩) x1.length x1.length) (.slice (some ⟨g4, 0, none⟩) x2.length x2.length) x1 x2 27 W) (by kernel_rfl) ?_ (fun hHeld => ?_)
    · assumption
    (refine wpAnyH_take (i := 0) (v := ?_) rfl (by kernel_rfl) (by kernel_rfl) (by kernel_rfl) (fun _ _ _ h => h) (Or.inl ⟨by rfl, ?_⟩) hHeld ?_; rotate_left; (intro w hSw; (obtain ⟨p0, p1, p2, _⟩ := hSw.1.p.three; obtain ⟨q0, q1, q2, _⟩ := hSw.2.p.three; clear hSw); (go_simp <;> with_reducible rfl)); simp only [List.getElem_toArray, List.getElem_cons_zero, Act.put, List.setIfInBounds_toArray, List.set_cons_zero, List.set_cons_succ])
    (refine wpAnyH_take (i := 1) (v := ?_) rfl (by kernel_rfl) (by kernel_rfl) (by kernel_rfl) (fun _ _ _ h => h) (Or.inl ⟨by rfl, ?_⟩) hHeld ?_; rotate_left; (intro w hSw; (obtain ⟨p0, p1, p2, _⟩ := hSw.1.p.three; obtain ⟨q0, q1, q2, _⟩ := hSw.2.p.three; clear hSw); (go_simp <;> with_reducible rfl)); simp only [List.getElem_toArray, List.getElem_cons_zero, List.getElem_cons_succ, Act.put, List.setIfInBounds_toArray, List.set_cons_zero, List.set_cons_succ])
    (refine wpAnyH_ready (rs := [2]) (by kernel_rfl) (by simp) ?_; refine AllReadyH.cons rfl (fun K hK => ?_) AllReadyH.nil; go_simp; (refine (toLap_calls s _ _ x1 x2 _ hHeld.1.s1 hHeld.1.s2 l1 l2).mono ?_; rintro e w7 ⟨g5, g6, rfl, ho7, hb7⟩; have hK' := And.intro (hHeld.1.later hb7) (hHeld.2.later hb7)); refine hK.out _ _ ?_ (fun hHeld => ?_); (assumption); clear hK K; try dsimp only)
    (refine wpAnyH_ready (rs := [3]) (by kernel_rfl) (by simp) ?_; refine AllReadyH.cons rfl (fun K hK => ?_) AllReadyH.nil; go_simp; (refine (eqLap_calls s _ _ _ _ x1 x2 _ hHeld.2.s1 hHeld.2.s2 ho7.h1.sl ho7.h2.sl l1 l2).mono ?_; rintro e w8 ⟨rfl, hb8⟩; have hK'' := And.intro (hHeld.1.later hb8) (hHeld.2.later hb8)); refine hK.out _ _ ?_ (fun hHeld => ?_); (assumption); clear hK K; try dsimp only)
    (refine wpAnyH_take (i := 4) (v := ?_) rfl (by kernel_rfl) (by kernel_rfl) (by kernel_rfl) (fun _ _ _ h => h) (Or.inl ⟨by rfl, ?_⟩) hHeld ?_; rotate_left; (intro w hSw; (obtain ⟨p0, p1, p2, _⟩ := hSw.1.p.three; obtain ⟨q0, q1, q2, _⟩ := hSw.2.p.three; clear hSw); (go_simp <;> with_reducible rfl)); simp only [List.getElem_toArray, List.getElem_cons_zero, List.getElem_cons_succ, Act.put, List.setIfInBounds_toArray, List.set_cons_zero, List.set_cons_succ])
    refine wpAnyH_done (by kernel_rfl) ?_ _
    refine NoPanic.normal ?_
    have HL := hid hHeld.1.l
    clear hHeld
    go_wp2
    go_ret
    exact ⟨rfl, HL.out⟩
  · rw [szV_no hbig] at HZ
    clear hbig
    go_enter Try.func3, Try.ntmps3
    go_wp2_with fail
    refine (HZ.out _).mono ?_
    rintro e w1 ⟨rfl, hb⟩
    have HL := hid (bthen HP.out.l hb)
    clear hb HP p0 p1 p2 HZ
    go_wp2
    go_ret
    exact ⟨rfl, HL.out⟩
set_option maxHeartbeats 2000000 in
theorem exactSynthFault_calls (s : Int) (a1 a2 : Option Addr) (c1 c2 : Nat) (x1 x2 : List Int) (w : World) (h1 : Sl .i64 w (.slice a1 x1.length c1) x1) (h2 : Sl .i64 w (.slice a2 x2.length c2) x2) (m1 : x1.length ≤ maxLen) (m2 : x2.length ≤ maxLen)
    (HI0 : ∀ (s : Int) (v1 v2 : Value) (x1 x2 : List Int) (W : World), Below w.heap.size w W → Sl .i64 W v1 x1 → Sl .i64 W v2 x2 → x1.length ≤ 1048576 → x2.length ≤ 1048576 → Calls Try.prog 22 #[.agg #[.int .i64 s, v1, v2]] W fun e w' => e = .returned (.int .i64 (syC s x1 x2)) ∧ Below W.heap.size W w') :
    Calls Try.prog 5 #[.agg #[.int .i64 s, .slice a1 x1.length c1, .slice a2 x2.length c2]] w fun e w' => e = .returned (.bool true) ∧ Below w.heap.size w w' := by
  have HI := hid HI0
  have HP := hid (PL.new s 38 h1 h2)
  have HZ := hid (fun W => szSynth_calls s 1048576 a1 a2 x1.length x2.length c1 c2 W m1 m2 (by omega) (by omega))
  clear HI0 h1 h2 m1 m2
  obtain ⟨p0, p1, p2, _⟩ := HP.out.p.three
  by_cases hbig : ((x1.length + x2.length : Nat) : Int) ≤ 1048576
  · rw [szV_yes hbig] at HZ
    have l1 : x1.length ≤ 1048576 := by omega
    have l2 : x2.length ≤ 1048576 := by omega
    have hz : 0 ≤ 1048576 - ((x1.length + x2.length : Nat) : Int) := by omega
    clear hbig
    generalize 1048576 - ((x1.length + x2.length : Nat) : Int) = z at *
    go_enter Try.func5, Try.ntmps5
    go_wp2_with fail
    refine (HZ.out _).mono ?_
    rintro e w1 ⟨rfl, hb⟩
    have HP1 := hid (HP.out.later hb)
    clear hb HP p0 p1 p2 HZ
    obtain ⟨p0, p1, p2, _⟩ := HP1.out.p.three
    go_wp2_with fail
    refine (toSynth_calls s _ _ x1 x2 _ HP1.out.s1 HP1.out.s2 l1 l2).mono ?_
    rintro e w2 ⟨g1, g2, rfl, ho, hb⟩
    have HP2 := hid (HP1.out.later hb)
    clear hb HP1 p0 p1 p2
    go_wp2_with fail
    refine (specSynthFault_calls s _ _ x1 x2 _ ho.h1.sl ho.h2.sl l1 l2).mono ?_
    rintro e w3 ⟨rfl, hb⟩
    have HP3 := hid (HP2.out.later hb)
    clear hb HP2 ho
    obtain ⟨p0, p1, p2, _⟩ := HP3.out.p.three
    go_wp2_with fail
    refine (toSynth_calls s _ _ x1 x2 _ HP3.out.s1 HP3.out.s2 l1 l2).mono ?_
    rintro e w4 ⟨g3, g4, rfl, ho, hb⟩
    have HP4 := hid ((HP3.out.later hb).alloc (.cells #[.int .i64 s, .slice (some ⟨g3, 0, none⟩) x1.length x1.length, .slice (some ⟨g4, 0, none⟩) x2.length x2.length] 41))
    have HX4 := hid (PL.boxed s 41 ho.h1.sl ho.h2.sl (HP3.out.later hb).l)
    clear hb HP3 ho p0 p1 p2
    go_wp2_with fail
    refine (HI.out s _ _ x1 x2 _ HP4.out.l HX4.out.s1 HX4.out.s2 l1 l2).mono ?_
    rintro e w6 ⟨rfl, hb⟩
    have hHK : PL w w.heap.size s (.slice a1 x1.length c1) (.slice a2 x2.length c2) x1 x2 38 w6.drew ∧ PL w w4.heap.size s (.slice (some ⟨g3, 0, none⟩) x1.length x1.length) (.slice (some ⟨g4, 0, none⟩) x2.length x2.length) x1 x2 41 w6.drew := ⟨(HP4.out.later hb).drew, (HX4.out.later hb).drew⟩
    clear hb HP4 HX4
    generalize w4.heap.size = B4 at *
    generalize syC s x1 x2 = c at *
    go_wp2_with fail
    refine wp_region_noPanic ?_
    refine wp_region_held_drew (S := fun W => PL w w.heap.size s (.slice a1 x1.length c1) (.slice a2 x2.length c2) x1 x2 38 W ∧ PL w B4 s (.slice (some ⟨g3, 0, none⟩) x1.length x1.length) (.slice (some ⟨g4, 0, none⟩) x2.length x2.length) x1 x2 41 W) (by kernel_rfl) ?_ (fun hHeld => ?_)
    · assumption
    (refine wpAnyH_take (i := 0) (v := ?_) rfl (by kernel_rfl) (by kernel_rfl) (by kernel_rfl) (fun _ _ _ h => h) (Or.inl ⟨by rfl, ?_⟩) hHeld ?_; rotate_left; (intro w hSw; (obtain ⟨p0, p1, p2, _⟩ := hSw.1.p.three; obtain ⟨q0, q1, q2, _⟩ := hSw.2.p.three; clear hSw); (go_simp <;> with_reducible rfl)); simp only [List.getElem_toArray, List.getElem_cons_zero, Act.put, List.setIfInBounds_toArray, List.set_cons_zero, List.set_cons_succ])
    (refine wpAnyH_take (i := 1) (v := ?_) rfl (by kernel_rfl) (by kernel_rfl) (by kernel_rfl) (fun _ _ _ h => h) (Or.inl ⟨by rfl, ?_⟩) hHeld ?_; rotate_left; (intro w hSw; (obtain ⟨p0, p1, p2, _⟩ := hSw.1.p.three; obtain ⟨q0, q1, q2, _⟩ := hSw.2.p.three; clear hSw); (go_simp <;> with_reducible rfl)); simp only [List.getElem_toArray, List.getElem_cons_zero, List.getElem_cons_succ, Act.put, List.setIfInBounds_toArray, List.set_cons_zero, List.set_cons_succ])
    (refine wpAnyH_ready (rs := [2]) (by kernel_rfl) (by simp) ?_; refine AllReadyH.cons rfl (fun K hK => ?_) AllReadyH.nil; go_simp; (refine (toSynth_calls s _ _ x1 x2 _ hHeld.1.s1 hHeld.1.s2 l1 l2).mono ?_; rintro e w7 ⟨g5, g6, rfl, ho7, hb7⟩; have hK' := And.intro (hHeld.1.later hb7) (hHeld.2.later hb7)); refine hK.out _ _ ?_ (fun hHeld => ?_); (assumption); clear hK K; try dsimp only)
    (refine wpAnyH_ready (rs := [3]) (by kernel_rfl) (by simp) ?_; refine AllReadyH.cons rfl (fun K hK => ?_) AllReadyH.nil; go_simp; (refine (eqSynth_calls s _ _ _ _ x1 x2 _ hHeld.2.s1 hHeld.2.s2 ho7.h1.sl ho7.h2.sl l1 l2).mono ?_; rintro e w8 ⟨rfl, hb8⟩; have hK'' := And.intro (hHeld.1.later hb8) (hHeld.2.later hb8)); refine hK.out _ _ ?_ (fun hHeld => ?_); (assumption); clear hK K; try dsimp only)
    (refine wpAnyH_take (i := 4) (v := ?_) rfl (by kernel_rfl) (by kernel_rfl) (by kernel_rfl) (fun _ _ _ h => h) (Or.inl ⟨by rfl, ?_⟩) hHeld ?_; rotate_left; (intro w hSw; (obtain ⟨p0, p1, p2, _⟩ := hSw.1.p.three; obtain ⟨q0, q1, q2, _⟩ := hSw.2.p.three; clear hSw); (go_simp <;> with_reducible rfl)); simp only [List.getElem_toArray, List.getElem_cons_zero, List.getElem_cons_succ, Act.put, List.setIfInBounds_toArray, List.set_cons_zero, List.set_cons_succ])
    refine wpAnyH_done (by kernel_rfl) ?_ _
    refine NoPanic.normal ?_
    have HL := hid hHeld.1.l
    clear hHeld
    go_wp2
    go_ret
    exact ⟨rfl, HL.out⟩
  · rw [szV_no hbig] at HZ
    clear hbig
    go_enter Try.func5, Try.ntmps5
    go_wp2_with fail
    refine (HZ.out _).mono ?_
    rintro e w1 ⟨rfl, hb⟩
    have HL := hid (bthen HP.out.l hb)
    clear hb HP p0 p1 p2 HZ
    go_wp2
    go_ret
    exact ⟨rfl, HL.out⟩
end Go.Proofs.Ytonpffmncghkaaa.ExLf
