/- The walks through the exact laws of new laps and synths, for a program that answers by the common answers. Condition: the program's own contract, wherever nothing that was there before has turned. -/
import Derived.Test.YtonpffmncghkaaaExKx
import Derived.Test.YtonpffmncghkaaaLapZ
namespace Go.Proofs.Ytonpffmncghkaaa.ExNl
open Go.ChangeShapes Go.WideShapes Go.ChangeAt Go.RowKit Go.Proofs.Ytonpffmncghkaaa.Num Go.Proofs.Ytonpffmncghkaaa.Sli Go.Proofs.Ytonpffmncghkaaa.App Go.Proofs.Ytonpffmncghkaaa.Samp Go.Proofs.Ytonpffmncghkaaa.Blk Go.Proofs.Ytonpffmncghkaaa.LapM Go.Proofs.Ytonpffmncghkaaa.IntL Go.Proofs.Ytonpffmncghkaaa.OwsG Go.Proofs.Ytonpffmncghkaaa.LapS Go.Proofs.Ytonpffmncghkaaa.LapX Go.Proofs.Ytonpffmncghkaaa.LapY Go.Proofs.Ytonpffmncghkaaa.LapZ Go.Proofs.Ytonpffmncghkaaa.ExKx

set_option maxHeartbeats 2000000 in
theorem exactNewLap_calls (s : Int) (w : World)
    (HI0 : ∀ (W : World), Below w.heap.size w W → Calls Try.prog 15 #[.int .i64 s] W fun e w' => ∃ u t, e = .returned (.agg #[.int .i64 (szF s), .int .i64 (nlS s), u, t]) ∧ TW W.heap.size u t (nlL s) (nlL s) w' ∧ Below W.heap.size W w') :
    Calls Try.prog 4 #[.int .i64 s] w fun e w' => e = .returned (.bool true) ∧ Below w.heap.size w w' := by
  have HI := hid HI0
  have HS := hid (specNewLap_calls s w)
  have hl : (nlL s).length ≤ 8 := by
    unfold nlL; split
    · rename_i h; rw [List.length_replicate]; exact (sz_nat h).2.2.2.2.1
    · simp
  clear HI0
  generalize szF s = c at *
  generalize nlS s = r at *
  generalize nlL s = L at *
  have hl' : L.length ≤ 1048576 := by omega
  go_enter Try.func4, Try.ntmps4
  go_wp2_with fail
  refine HS.out.mono ?_
  rintro e w1 ⟨u1, t1, rfl, ht1, hb1⟩
  obtain ⟨au, cu, rfl, -⟩ := ht1.s.sl
  obtain ⟨at1, ct, rfl, -⟩ := ht1.d.sl
  have ha1 := bmore (Below.refl w1.heap.size w1) (.cells #[.int .i64 c, .int .i64 r, .slice au L.length cu, .slice at1 L.length ct] 32)
  have HW1 := hid (ht1.s.sl.later ha1)
  have HW2 := hid (ht1.d.sl.later ha1)
  have HP1 := hid (Blk.new w1 #[.int .i64 c, .int .i64 r, .slice au L.length cu, .slice at1 L.length ct] 32)
  have HB1 := hid (bthen hb1 ha1)
  have hwA : w.heap.size ≤ w1.heap.size := hb1.size
  have hsA : (w1.alloc (.cells #[.int .i64 c, .int .i64 r, .slice au L.length cu, .slice at1 L.length ct] 32)).heap.size = w1.heap.size + 1 := World.size_alloc _ _
  clear ht1 hb1 ha1 HS
  go_wp2_with fail
  generalize (w1.alloc (.cells #[.int .i64 c, .int .i64 r, .slice au L.length cu, .slice at1 L.length ct] 32)) = w2 at *
  refine (HI.out _ HB1.out).mono ?_
  rintro e w3 ⟨u2, t2, rfl, ht2, hb2⟩
  obtain ⟨av, cv, rfl, -⟩ := ht2.s.sl
  obtain ⟨at2, ct2, rfl, -⟩ := ht2.d.sl
  have ha2 := bmore (Below.refl w3.heap.size w3) (.cells #[.int .i64 c, .int .i64 r, .slice av L.length cv, .slice at2 L.length ct2] 32)
  have hK : KX w [(w1.heap.size, #[.int .i64 c, .int .i64 r, .slice au L.length cu, .slice at1 L.length ct], 32), (w3.heap.size, #[.int .i64 c, .int .i64 r, .slice av L.length cv, .slice at2 L.length ct2], 32)] w2.heap.size w2.heap.size [(.slice au L.length cu, L), (.slice at1 L.length ct, L)] [(.slice av L.length cv, L), (.slice at2 L.length ct2, L)] (w3.alloc (.cells #[.int .i64 c, .int .i64 r, .slice av L.length cv, .slice at2 L.length ct2] 32)) := by
    have hbb := bthen hb2 ha2
    refine ⟨fun p hp => ?_, fun p hp => ?_, (OWS.two ht2.s ht2.d ht2.ne).later ha2, Nat.le_refl _, hbb.size, by omega, bthen HB1.out hbb⟩
    · rcases List.mem_cons.1 hp with rfl | hp
      · exact HP1.out.later hbb
      · rcases List.mem_cons.1 hp with rfl | hp
        · exact Blk.new _ _ _
        · cases hp
    · rcases List.mem_cons.1 hp with rfl | hp
      · exact (Sb.of HW1.out).keep hbb
      · rcases List.mem_cons.1 hp with rfl | hp
        · exact (Sb.of HW2.out).keep hbb
        · cases hp
  have hgB : ∀ j, Ob [.slice av L.length cv, .slice at2 L.length ct2] j → w2.heap.size ≤ j ∧ j < w3.heap.size := fun j e => (OWS.two ht2.s ht2.d ht2.ne).blocks e
  have HK := hid hK
  have HGB := hid hgB
  have hAG : w1.heap.size < w3.heap.size := by have := hb2.size; omega
  have HP3 := hid (HP1.out.later hb2)
  clear ht2 hb2 ha2 HW1 HW2 HP1 HB1 hK hgB
  obtain ⟨p0, p1, p2, p3, _⟩ := HP3.out.four
  go_wp2_with fail
  refine (eqLapResult_calls c r _ _ _ _ L L _ HK.out.og.h1.sl HK.out.og.h2.sl HK.out.w0 HK.out.w1 hl' hl').mono ?_
  rintro e w5 ⟨rfl, hb5⟩
  have HK5 := hid (HK.out.later hb5)
  clear hb5 HK p0 p1 p2 p3 HP3
  obtain ⟨q0, q1, q2, q3, _⟩ := HK5.out.b1.four
  go_wp2_with fail
  refine (markLapResult_calls _ c r _ _ L L _ 1 HK5.out.og hl' hl' (by omega)).mono ?_
  rintro e w6 ⟨rfl, ho6, hg6⟩
  have HK6 := hid (HK5.out.on hg6 (fun j e => (HGB.out j e).1) (fun p hp => by
    intro e
    have he := HGB.out _ e
    rcases List.mem_cons.1 hp with rfl | hp
    · dsimp only at he; omega
    · rcases List.mem_cons.1 hp with rfl | hp
      · dsimp only at he; omega
      · cases hp) ho6)
  obtain ⟨M, hM⟩ : ∃ M : Nat, 1 + L.length + L.length = M := ⟨_, rfl⟩
  have HM := hid hM
  rw [hM]
  have hM0 : ¬ (M : Int) < 0 := by omega
  have hMM : ((M : Int) != (M : Int)) = false := by simp
  clear ho6 hg6 HK5 q0 q1 q2 q3 hM
  obtain ⟨q0, q1, q2, q3, _⟩ := HK6.out.b1.four
  go_wp2_with fail
  refine (heldLapResult_calls c r _ _ L.length L.length _ 1 HK6.out.og.h1.sl HK6.out.og.h2.sl hl' hl' (by omega)).mono ?_
  rintro e w7 ⟨rfl, hb7⟩
  have HK7 := hid (HK6.out.later hb7)
  rw [HM.out]
  clear hb7 HK6 q0 q1 q2 q3
  go_wp2_with fail
  refine (HI.out _ HK7.out.b).mono ?_
  rintro e w8 ⟨u3, t3, rfl, ht3, hb8⟩
  obtain ⟨ax, cx, rfl, -⟩ := ht3.s.sl
  obtain ⟨at3, ct3, rfl, -⟩ := ht3.d.sl
  have HK8 := hid (HK7.out.later hb8)
  have ha8 := bmore (Below.refl w8.heap.size w8) (.cells #[.int .i64 c, .int .i64 r, .slice ax L.length cx, .slice at3 L.length ct3] 32)
  have HK9 := hid (HK8.out.later ha8)
  have HX1 := hid (ht3.s.sl.later ha8)
  have HX2 := hid (ht3.d.sl.later ha8)
  obtain ⟨p0, p1, p2, p3, _⟩ := HK8.out.b0.four
  have hltA := HK8.out.b0.lt
  clear ht3 hb8 ha8 HK7 HK8 HI
  go_wp2_with fail
  refine (eqLapResult_calls c r _ _ _ _ L L _ HX1.out HX2.out HK9.out.w0 HK9.out.w1 hl' hl').mono ?_
  rintro e w10 ⟨rfl, hb10⟩
  have HK10 := hid (HK9.out.later hb10)
  clear hb10 HK9 HX1 HX2 p0 p1 p2 p3 hltA
  obtain ⟨q0, q1, q2, q3, _⟩ := HK10.out.b1.four
  go_wp2_with fail
  refine (heldLapResult_calls c r _ _ L.length L.length _ 1 HK10.out.og.h1.sl HK10.out.og.h2.sl hl' hl' (by omega)).mono ?_
  rintro e w11 ⟨rfl, hb11⟩
  have HL := hid (bthen HK10.out.b hb11)
  rw [HM.out]
  clear hb11 HK10 q0 q1 q2 q3
  go_wp2
  go_ret
  exact ⟨rfl, HL.out⟩
set_option maxHeartbeats 2000000 in
theorem exactNewSynth_calls (s : Int) (w : World)
    (HI0 : ∀ (W : World), Below w.heap.size w W → Calls Try.prog 25 #[.int .i64 s] W fun e w' => ∃ u t, e = .returned (.agg #[.int .i64 (szF s), .int .i64 (nlS s), u, t]) ∧ TW W.heap.size u t (nlL s) (nlL s) w' ∧ Below W.heap.size W w') :
    Calls Try.prog 6 #[.int .i64 s] w fun e w' => e = .returned (.bool true) ∧ Below w.heap.size w w' := by
  have HI := hid HI0
  have HS := hid (specNewSynth_calls s w)
  have hl : (nlL s).length ≤ 8 := by
    unfold nlL; split
    · rename_i h; rw [List.length_replicate]; exact (sz_nat h).2.2.2.2.1
    · simp
  clear HI0
  generalize szF s = c at *
  generalize nlS s = r at *
  generalize nlL s = L at *
  have hl' : L.length ≤ 1048576 := by omega
  go_enter Try.func6, Try.ntmps6
  go_wp2_with fail
  refine HS.out.mono ?_
  rintro e w1 ⟨u1, t1, rfl, ht1, hb1⟩
  obtain ⟨au, cu, rfl, -⟩ := ht1.s.sl
  obtain ⟨at1, ct, rfl, -⟩ := ht1.d.sl
  have ha1 := bmore (Below.refl w1.heap.size w1) (.cells #[.int .i64 c, .int .i64 r, .slice au L.length cu, .slice at1 L.length ct] 46)
  have HW1 := hid (ht1.s.sl.later ha1)
  have HW2 := hid (ht1.d.sl.later ha1)
  have HP1 := hid (Blk.new w1 #[.int .i64 c, .int .i64 r, .slice au L.length cu, .slice at1 L.length ct] 46)
  have HB1 := hid (bthen hb1 ha1)
  have hwA : w.heap.size ≤ w1.heap.size := hb1.size
  have hsA : (w1.alloc (.cells #[.int .i64 c, .int .i64 r, .slice au L.length cu, .slice at1 L.length ct] 46)).heap.size = w1.heap.size + 1 := World.size_alloc _ _
  clear ht1 hb1 ha1 HS
  go_wp2_with fail
  generalize (w1.alloc (.cells #[.int .i64 c, .int .i64 r, .slice au L.length cu, .slice at1 L.length ct] 46)) = w2 at *
  refine (HI.out _ HB1.out).mono ?_
  rintro e w3 ⟨u2, t2, rfl, ht2, hb2⟩
  obtain ⟨av, cv, rfl, -⟩ := ht2.s.sl
  obtain ⟨at2, ct2, rfl, -⟩ := ht2.d.sl
  have ha2 := bmore (Below.refl w3.heap.size w3) (.cells #[.int .i64 c, .int .i64 r, .slice av L.length cv, .slice at2 L.length ct2] 46)
  have hK : KX w [(w1.heap.size, #[.int .i64 c, .int .i64 r, .slice au L.length cu, .slice at1 L.length ct], 46), (w3.heap.size, #[.int .i64 c, .int .i64 r, .slice av L.length cv, .slice at2 L.length ct2], 46)] w2.heap.size w2.heap.size [(.slice au L.length cu, L), (.slice at1 L.length ct, L)] [(.slice av L.length cv, L), (.slice at2 L.length ct2, L)] (w3.alloc (.cells #[.int .i64 c, .int .i64 r, .slice av L.length cv, .slice at2 L.length ct2] 46)) := by
    have hbb := bthen hb2 ha2
    refine ⟨fun p hp => ?_, fun p hp => ?_, (OWS.two ht2.s ht2.d ht2.ne).later ha2, Nat.le_refl _, hbb.size, by omega, bthen HB1.out hbb⟩
    · rcases List.mem_cons.1 hp with rfl | hp
      · exact HP1.out.later hbb
      · rcases List.mem_cons.1 hp with rfl | hp
        · exact Blk.new _ _ _
        · cases hp
    · rcases List.mem_cons.1 hp with rfl | hp
      · exact (Sb.of HW1.out).keep hbb
      · rcases List.mem_cons.1 hp with rfl | hp
        · exact (Sb.of HW2.out).keep hbb
        · cases hp
  have hgB : ∀ j, Ob [.slice av L.length cv, .slice at2 L.length ct2] j → w2.heap.size ≤ j ∧ j < w3.heap.size := fun j e => (OWS.two ht2.s ht2.d ht2.ne).blocks e
  have HK := hid hK
  have HGB := hid hgB
  have hAG : w1.heap.size < w3.heap.size := by have := hb2.size; omega
  have HP3 := hid (HP1.out.later hb2)
  clear ht2 hb2 ha2 HW1 HW2 HP1 HB1 hK hgB
  obtain ⟨p0, p1, p2, p3, _⟩ := HP3.out.four
  go_wp2_with fail
  refine (eqSynthResult_calls c r _ _ _ _ L L _ HK.out.og.h1.sl HK.out.og.h2.sl HK.out.w0 HK.out.w1 hl' hl').mono ?_
  rintro e w5 ⟨rfl, hb5⟩
  have HK5 := hid (HK.out.later hb5)
  clear hb5 HK p0 p1 p2 p3 HP3
  obtain ⟨q0, q1, q2, q3, _⟩ := HK5.out.b1.four
  go_wp2_with fail
  refine (markSynthResult_calls _ c r _ _ L L _ 1 HK5.out.og hl' hl' (by omega)).mono ?_
  rintro e w6 ⟨rfl, ho6, hg6⟩
  have HK6 := hid (HK5.out.on hg6 (fun j e => (HGB.out j e).1) (fun p hp => by
    intro e
    have he := HGB.out _ e
    rcases List.mem_cons.1 hp with rfl | hp
    · dsimp only at he; omega
    · rcases List.mem_cons.1 hp with rfl | hp
      · dsimp only at he; omega
      · cases hp) ho6)
  obtain ⟨M, hM⟩ : ∃ M : Nat, 1 + L.length + L.length = M := ⟨_, rfl⟩
  have HM := hid hM
  rw [hM]
  have hM0 : ¬ (M : Int) < 0 := by omega
  have hMM : ((M : Int) != (M : Int)) = false := by simp
  clear ho6 hg6 HK5 q0 q1 q2 q3 hM
  obtain ⟨q0, q1, q2, q3, _⟩ := HK6.out.b1.four
  go_wp2_with fail
  refine (heldSynthResult_calls c r _ _ L.length L.length _ 1 HK6.out.og.h1.sl HK6.out.og.h2.sl hl' hl' (by omega)).mono ?_
  rintro e w7 ⟨rfl, hb7⟩
  have HK7 := hid (HK6.out.later hb7)
  rw [HM.out]
  clear hb7 HK6 q0 q1 q2 q3
  go_wp2_with fail
  refine (HI.out _ HK7.out.b).mono ?_
  rintro e w8 ⟨u3, t3, rfl, ht3, hb8⟩
  obtain ⟨ax, cx, rfl, -⟩ := ht3.s.sl
  obtain ⟨at3, ct3, rfl, -⟩ := ht3.d.sl
  have HK8 := hid (HK7.out.later hb8)
  have ha8 := bmore (Below.refl w8.heap.size w8) (.cells #[.int .i64 c, .int .i64 r, .slice ax L.length cx, .slice at3 L.length ct3] 46)
  have HK9 := hid (HK8.out.later ha8)
  have HX1 := hid (ht3.s.sl.later ha8)
  have HX2 := hid (ht3.d.sl.later ha8)
  obtain ⟨p0, p1, p2, p3, _⟩ := HK8.out.b0.four
  have hltA := HK8.out.b0.lt
  clear ht3 hb8 ha8 HK7 HK8 HI
  go_wp2_with fail
  refine (eqSynthResult_calls c r _ _ _ _ L L _ HX1.out HX2.out HK9.out.w0 HK9.out.w1 hl' hl').mono ?_
  rintro e w10 ⟨rfl, hb10⟩
  have HK10 := hid (HK9.out.later hb10)
  clear hb10 HK9 HX1 HX2 p0 p1 p2 p3 hltA
  obtain ⟨q0, q1, q2, q3, _⟩ := HK10.out.b1.four
  go_wp2_with fail
  refine (heldSynthResult_calls c r _ _ L.length L.length _ 1 HK10.out.og.h1.sl HK10.out.og.h2.sl hl' hl' (by omega)).mono ?_
  rintro e w11 ⟨rfl, hb11⟩
  have HL := hid (bthen HK10.out.b hb11)
  rw [HM.out]
  clear hb11 HK10 q0 q1 q2 q3
  go_wp2
  go_ret
  exact ⟨rfl, HL.out⟩
end Go.Proofs.Ytonpffmncghkaaa.ExNl
