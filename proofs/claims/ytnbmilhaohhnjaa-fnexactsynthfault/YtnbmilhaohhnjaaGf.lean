/- The laws' own helpers over laps and synths: their size, copies of them. || The laws' own helpers over laps and synths: whether two are the same, marks that are written into their lists and found there again. || The laws' own helpers over answers that hold laps and synths. || The walks through the exact laws of faults of laps and synths, and of whether two are the same, for a program that answers by the common answers. Condition: the program's own contract, wherever nothing that was there before has turned. -/
import Derived.Test.YtnbmilhaohhnjaaGa
import Derived.Test.YtnbmilhaohhnjaaLapS
import Derived.Deep.RegionHeld3
namespace Go.Proofs.Ytnbmilhaohhnjaa.LapX
open Go.ChangeShapes Go.WideShapes Go.ChangeAt Go.RowKit Go.Proofs.Ytnbmilhaohhnjaa.Num Go.Proofs.Ytnbmilhaohhnjaa.Sli Go.Proofs.Ytnbmilhaohhnjaa.App Go.Proofs.Ytnbmilhaohhnjaa.Blk Go.Proofs.Ytnbmilhaohhnjaa.IntL Go.Proofs.Ytnbmilhaohhnjaa.OwsG

/-- What is left when n more are counted. -/
def szV (n : Nat) (left : Int) : Int := if (n : Int) ≤ left then left - n else -1
theorem szV_yes {n : Nat} {left : Int} (h : (n : Int) ≤ left) : szV n left = left - n := if_pos h
theorem szV_no {n : Nat} {left : Int} (h : ¬ (n : Int) ≤ left) : szV n left = -1 := if_neg h
theorem szI_calls (a : Option Addr) (n cap : Nat) (left : Int) (w : World) (hn : n ≤ maxLen) (h0 : 0 ≤ left) (h1 : left ≤ 1048576) :
    Calls Try.prog 20 #[.slice a n cap, .int .i64 left] w fun e w' => e = .returned (.int .i64 (szV n left)) ∧ w' = w := by
  have hn' : (n : Int) ≤ 9223372036854775807 := by unfold maxLen at hn; omega
  by_cases h : (n : Int) ≤ left
  · rw [szV_yes h]
    have h' : 0 ≤ left - (n : Int) := by omega
    go_enter Try.func20, Try.ntmps20
    go_wp2
    go_ret
    exact ⟨rfl, rfl⟩
  · rw [szV_no h]
    have h' : left - (n : Int) < 0 := by omega
    go_enter Try.func20, Try.ntmps20
    go_wp2
    go_ret
    exact ⟨rfl, rfl⟩
theorem szLap_calls (s left : Int) (a1 a2 : Option Addr) (n1 n2 c1 c2 : Nat) (w : World) (h1 : n1 ≤ maxLen) (h2 : n2 ≤ maxLen) (h3 : 0 ≤ left) (h4 : left ≤ 1048576) :
    Calls Try.prog 6 #[.agg #[.int .i64 s, .slice a1 n1 c1, .slice a2 n2 c2], .int .i64 left] w fun e w' => e = .returned (.int .i64 (szV (n1 + n2) left)) ∧ Below w.heap.size w w' := by
  have Hb := hid (bmore (Below.refl _ w) (.cells #[.int .i64 s, .slice a1 n1 c1, .slice a2 n2 c2] 24))
  by_cases e1 : (n1 : Int) ≤ left
  · have H1 := hid (fun W => szI_calls a1 n1 c1 left W h1 h3 h4)
    rw [szV_yes e1] at H1
    have H2 := hid (fun W => szI_calls a2 n2 c2 (left - n1) W h2 (by omega) (by omega))
    by_cases e2 : (n2 : Int) ≤ left - n1
    · rw [szV_yes e2] at H2
      rw [szV_yes (by omega), show left - ((n1 + n2 : Nat) : Int) = left - n1 - n2 by omega]
      have p1 : 0 ≤ left - (n1 : Int) := by omega
      have p2 : 0 ≤ left - (n1 : Int) - n2 := by omega
      clear e1 e2 h1 h2
      generalize left - (n1 : Int) - n2 = z2 at *
      generalize left - (n1 : Int) = z1 at *
      go_enter Try.func6, Try.ntmps6
      go_wp2_with fail
      refine (H1.out _).mono ?_
      rintro e w' ⟨rfl, rfl⟩
      go_wp2_with fail
      refine (H2.out _).mono ?_
      rintro e w' ⟨rfl, rfl⟩
      go_wp2
      go_ret
      exact ⟨rfl, Hb.out⟩
    · rw [szV_no e2] at H2
      rw [szV_no (by omega)]
      have p1 : 0 ≤ left - (n1 : Int) := by omega
      clear e1 e2 h1 h2
      generalize left - (n1 : Int) = z1 at *
      go_enter Try.func6, Try.ntmps6
      go_wp2_with fail
      refine (H1.out _).mono ?_
      rintro e w' ⟨rfl, rfl⟩
      go_wp2_with fail
      refine (H2.out _).mono ?_
      rintro e w' ⟨rfl, rfl⟩
      go_wp2
      go_ret
      exact ⟨rfl, Hb.out⟩
  · have H1 := hid (fun W => szI_calls a1 n1 c1 left W h1 h3 h4)
    rw [szV_no e1] at H1
    rw [szV_no (by omega)]
    clear e1 h1 h2
    go_enter Try.func6, Try.ntmps6
    go_wp2_with fail
    refine (H1.out _).mono ?_
    rintro e w' ⟨rfl, rfl⟩
    go_wp2
    go_ret
    exact ⟨rfl, Hb.out⟩
set_option maxHeartbeats 1000000 in
theorem toLap_calls (s : Int) (v1 v2 : Value) (x1 x2 : List Int) (w : World) (h1 : Sl .i64 w v1 x1) (h2 : Sl .i64 w v2 x2) (m1 : x1.length ≤ 1048576) (m2 : x2.length ≤ 1048576) :
    Calls Try.prog 8 #[.agg #[.int .i64 s, v1, v2]] w fun e w' => ∃ g1 g2, e = .returned (.agg #[.int .i64 s, .slice (some ⟨g1, 0, none⟩) x1.length x1.length, .slice (some ⟨g2, 0, none⟩) x2.length x2.length]) ∧
      OWS (w.heap.size + 1) w' [(.slice (some ⟨g1, 0, none⟩) x1.length x1.length, x1), (.slice (some ⟨g2, 0, none⟩) x2.length x2.length, x2)] ∧ Below w.heap.size w w' := by
  have HA := hid (fun W (q : Sl .i64 W v1 x1) => toInt64S_calls v1 x1 W q m1)
  have HB := hid (fun W (q : Sl .i64 W v2 x2) => toInt64S_calls v2 x2 W q m2)
  have H1 := hid h1
  have H2 := hid h2
  obtain ⟨a1, c1, rfl, -⟩ := id h1
  obtain ⟨a2, c2, rfl, -⟩ := id h2
  clear h1 h2
  obtain ⟨hp, hr, ho, hb, _⟩ := boxes3 (w := w) (A := #[.int .i64 s, .slice a1 x1.length c1, .slice a2 x2.length c2]) (B := #[.int .i64 0, .slice none 0 0, .slice none 0 0]) (C := #[.int .i64 s, .slice none 0 0, .slice none 0 0]) (t := 24) (u := 27) (s := 27) (Below.refl _ _)
  have HP := hid hp
  have HR := hid hr
  have HO := hid ho
  have HBw := hid hb
  clear hp hr ho hb
  go_enter Try.func8, Try.ntmps8
  go_wp2_with fail
  have hsz : ((((w.alloc (.cells #[.int .i64 s, .slice a1 x1.length c1, .slice a2 x2.length c2] 24)).alloc (.cells #[.int .i64 0, .slice none 0 0, .slice none 0 0] 27)).alloc (.cells #[.int .i64 s, .slice none 0 0, .slice none 0 0] 27))).heap.size = w.heap.size + 3 := by simp
  refine (HA.out _ (H1.out.later HBw.out)).mono ?_
  rintro e w1 ⟨g1, rfl, ho1, hb1⟩
  have HP1 := hid (HP.out.later hb1)
  have HR1 := hid (HR.out.later hb1)
  have HO1 := hid (HO.out.later hb1)
  have HB1 := hid (bthen HBw.out hb1)
  have HL1 := hid ho1
  have hg1 := ho1.block g1 rfl
  have hs1 := hb1.size
  rw [hsz] at hs1 hg1 HL1
  clear ho1 hb1 HP HR HO HBw HA hsz
  obtain ⟨p0, p1, p2, _⟩ := HP1.out.three
  obtain ⟨o0, o1, o2, f0, f1, f2⟩ := HO1.out.three
  have HO2 := hid (HO1.out.set 1 (.slice (some ⟨g1, 0, none⟩) x1.length x1.length))
  have HP2 := hid (HP1.out.other (b' := w.heap.size + 1 + 1) (by omega) 1 (.slice (some ⟨g1, 0, none⟩) x1.length x1.length))
  have HR2 := hid (HR1.out.other (b' := w.heap.size + 1 + 1) (by omega) 1 (.slice (some ⟨g1, 0, none⟩) x1.length x1.length))
  have HB2 := hid (below_cell HB1.out (show w.heap.size ≤ w.heap.size + 1 + 1 by omega) 1 (.slice (some ⟨g1, 0, none⟩) x1.length x1.length))
  have HL2 := hid (HL1.out.kept (grown_set w1 (w.heap.size + 1 + 1) 1 (.slice (some ⟨g1, 0, none⟩) x1.length x1.length)) (fun j e => by cases e; omega))
  have H22 := hid (H2.out.later HB2.out)
  obtain ⟨p0', p1', p2', _⟩ := HP2.out.three
  have hs2 : w.heap.size + 3 ≤ (w1.setCell ⟨w.heap.size + 1 + 1, 1, none⟩ (.slice (some ⟨g1, 0, none⟩) x1.length x1.length)).heap.size := by simpa [World.setCell] using hs1
  have hg2 : g1 < (w1.setCell ⟨w.heap.size + 1 + 1, 1, none⟩ (.slice (some ⟨g1, 0, none⟩) x1.length x1.length)).heap.size := by simpa [World.setCell] using hg1.2
  clear HP1 HR1 HO1 HB1 HL1
  go_wp2_with fail
  generalize (w1.setCell ⟨w.heap.size + 1 + 1, 1, none⟩ (.slice (some ⟨g1, 0, none⟩) x1.length x1.length)) = w2 at *
  refine (HB.out _ H22.out).mono ?_
  rintro e w3 ⟨g3, rfl, ho3, hb3⟩
  have HR3 := hid (HR2.out.later hb3)
  have HO3 := hid (HO2.out.later hb3)
  have HB3 := hid (bthen HB2.out hb3)
  have HL3 := hid (HL2.out.later hb3)
  have HM3 := hid (App.Ow.mono ho3 (show w.heap.size + 3 ≤ w2.heap.size by omega))
  have hne : g1 ≠ g3 := by have := (ho3.block g3 rfl).1; omega
  clear ho3 hb3 HP2 HR2 HO2 HB2 HL2 H22 HB p0 p1 p2 o0 o1 o2 f0 f1 f2 p0' p1' p2'
  obtain ⟨o0, o1, o2, f0, f1, f2⟩ := HO3.out.three
  obtain ⟨r0, r1, r2, q0, q1, q2⟩ := HR3.out.three
  have HG := hid (grown_set w3 (w.heap.size + 1 + 1) 2 (.slice (some ⟨g3, 0, none⟩) x2.length x2.length))
  have HG2 := hid (LapS.grown_set3 (w3.setCell ⟨w.heap.size + 1 + 1, 2, none⟩ (.slice (some ⟨g3, 0, none⟩) x2.length x2.length)) (w.heap.size + 1) (.int .i64 s) (.slice (some ⟨g1, 0, none⟩) x1.length x1.length) (.slice (some ⟨g3, 0, none⟩) x2.length x2.length))
  have HF : Hid (OWS (w.heap.size + 1) ((((w3.setCell ⟨w.heap.size + 1 + 1, 2, none⟩ (.slice (some ⟨g3, 0, none⟩) x2.length x2.length)).setCell ⟨w.heap.size + 1, 0, none⟩ (.int .i64 s)).setCell ⟨w.heap.size + 1, 1, none⟩ (.slice (some ⟨g1, 0, none⟩) x1.length x1.length)).setCell ⟨w.heap.size + 1, 2, none⟩ (.slice (some ⟨g3, 0, none⟩) x2.length x2.length)) [(.slice (some ⟨g1, 0, none⟩) x1.length x1.length, x1), (.slice (some ⟨g3, 0, none⟩) x2.length x2.length, x2)]) := by
    refine OWS.two ?_ ?_ (fun g e1 e2 => by simp [Value.ownBlock] at e1 e2; omega)
    · exact App.Ow.mono ((HL3.out.kept HG.out (fun j e => by cases e; omega)).kept HG2.out (fun j e => by cases e; omega)) (by omega)
    · exact App.Ow.mono ((HM3.out.kept HG.out (fun j e => by cases e; omega)).kept HG2.out (fun j e => by cases e; omega)) (by omega)
  have HBf := hid (below_cell (below_cell (below_cell (below_cell HB3.out (show w.heap.size ≤ w.heap.size + 1 + 1 by omega) 2 (.slice (some ⟨g3, 0, none⟩) x2.length x2.length)) (show w.heap.size ≤ w.heap.size + 1 by omega) 0 (.int .i64 s)) (show w.heap.size ≤ w.heap.size + 1 by omega) 1 (.slice (some ⟨g1, 0, none⟩) x1.length x1.length)) (show w.heap.size ≤ w.heap.size + 1 by omega) 2 (.slice (some ⟨g3, 0, none⟩) x2.length x2.length))
  clear HR3 HO3 HB3 HL3 HM3 HG HG2
  go_wp2
  exact bodyPost_ret (v := .agg #[.int .i64 s, .slice (some ⟨g1, 0, none⟩) x1.length x1.length, .slice (some ⟨g3, 0, none⟩) x2.length x2.length]) (by simp [results, Try.results8, go_sem, r0, r1, r2]) rfl ⟨_, _, rfl, HF.out, HBf.out⟩
theorem szSynth_calls (s left : Int) (a1 a2 : Option Addr) (n1 n2 c1 c2 : Nat) (w : World) (h1 : n1 ≤ maxLen) (h2 : n2 ≤ maxLen) (h3 : 0 ≤ left) (h4 : left ≤ 1048576) :
    Calls Try.prog 11 #[.agg #[.int .i64 s, .slice a1 n1 c1, .slice a2 n2 c2], .int .i64 left] w fun e w' => e = .returned (.int .i64 (szV (n1 + n2) left)) ∧ Below w.heap.size w w' := by
  have Hb := hid (bmore (Below.refl _ w) (.cells #[.int .i64 s, .slice a1 n1 c1, .slice a2 n2 c2] 32))
  by_cases e1 : (n1 : Int) ≤ left
  · have H1 := hid (fun W => szI_calls a1 n1 c1 left W h1 h3 h4)
    rw [szV_yes e1] at H1
    have H2 := hid (fun W => szI_calls a2 n2 c2 (left - n1) W h2 (by omega) (by omega))
    by_cases e2 : (n2 : Int) ≤ left - n1
    · rw [szV_yes e2] at H2
      rw [szV_yes (by omega), show left - ((n1 + n2 : Nat) : Int) = left - n1 - n2 by omega]
      have p1 : 0 ≤ left - (n1 : Int) := by omega
      have p2 : 0 ≤ left - (n1 : Int) - n2 := by omega
      clear e1 e2 h1 h2
      generalize left - (n1 : Int) - n2 = z2 at *
      generalize left - (n1 : Int) = z1 at *
      go_enter Try.func11, Try.ntmps11
      go_wp2_with fail
      refine (H1.out _).mono ?_
      rintro e w' ⟨rfl, rfl⟩
      go_wp2_with fail
      refine (H2.out _).mono ?_
      rintro e w' ⟨rfl, rfl⟩
      go_wp2
      go_ret
      exact ⟨rfl, Hb.out⟩
    · rw [szV_no e2] at H2
      rw [szV_no (by omega)]
      have p1 : 0 ≤ left - (n1 : Int) := by omega
      clear e1 e2 h1 h2
      generalize left - (n1 : Int) = z1 at *
      go_enter Try.func11, Try.ntmps11
      go_wp2_with fail
      refine (H1.out _).mono ?_
      rintro e w' ⟨rfl, rfl⟩
      go_wp2_with fail
      refine (H2.out _).mono ?_
      rintro e w' ⟨rfl, rfl⟩
      go_wp2
      go_ret
      exact ⟨rfl, Hb.out⟩
  · have H1 := hid (fun W => szI_calls a1 n1 c1 left W h1 h3 h4)
    rw [szV_no e1] at H1
    rw [szV_no (by omega)]
    clear e1 h1 h2
    go_enter Try.func11, Try.ntmps11
    go_wp2_with fail
    refine (H1.out _).mono ?_
    rintro e w' ⟨rfl, rfl⟩
    go_wp2
    go_ret
    exact ⟨rfl, Hb.out⟩
set_option maxHeartbeats 1000000 in
theorem toSynth_calls (s : Int) (v1 v2 : Value) (x1 x2 : List Int) (w : World) (h1 : Sl .i64 w v1 x1) (h2 : Sl .i64 w v2 x2) (m1 : x1.length ≤ 1048576) (m2 : x2.length ≤ 1048576) :
    Calls Try.prog 13 #[.agg #[.int .i64 s, v1, v2]] w fun e w' => ∃ g1 g2, e = .returned (.agg #[.int .i64 s, .slice (some ⟨g1, 0, none⟩) x1.length x1.length, .slice (some ⟨g2, 0, none⟩) x2.length x2.length]) ∧
      OWS (w.heap.size + 1) w' [(.slice (some ⟨g1, 0, none⟩) x1.length x1.length, x1), (.slice (some ⟨g2, 0, none⟩) x2.length x2.length, x2)] ∧ Below w.heap.size w w' := by
  have HA := hid (fun W (q : Sl .i64 W v1 x1) => toInt64S_calls v1 x1 W q m1)
  have HB := hid (fun W (q : Sl .i64 W v2 x2) => toInt64S_calls v2 x2 W q m2)
  have H1 := hid h1
  have H2 := hid h2
  obtain ⟨a1, c1, rfl, -⟩ := id h1
  obtain ⟨a2, c2, rfl, -⟩ := id h2
  clear h1 h2
  obtain ⟨hp, hr, ho, hb, _⟩ := boxes3 (w := w) (A := #[.int .i64 s, .slice a1 x1.length c1, .slice a2 x2.length c2]) (B := #[.int .i64 0, .slice none 0 0, .slice none 0 0]) (C := #[.int .i64 s, .slice none 0 0, .slice none 0 0]) (t := 32) (u := 35) (s := 35) (Below.refl _ _)
  have HP := hid hp
  have HR := hid hr
  have HO := hid ho
  have HBw := hid hb
  clear hp hr ho hb
  go_enter Try.func13, Try.ntmps13
  go_wp2_with fail
  have hsz : ((((w.alloc (.cells #[.int .i64 s, .slice a1 x1.length c1, .slice a2 x2.length c2] 32)).alloc (.cells #[.int .i64 0, .slice none 0 0, .slice none 0 0] 35)).alloc (.cells #[.int .i64 s, .slice none 0 0, .slice none 0 0] 35))).heap.size = w.heap.size + 3 := by simp
  refine (HA.out _ (H1.out.later HBw.out)).mono ?_
  rintro e w1 ⟨g1, rfl, ho1, hb1⟩
  have HP1 := hid (HP.out.later hb1)
  have HR1 := hid (HR.out.later hb1)
  have HO1 := hid (HO.out.later hb1)
  have HB1 := hid (bthen HBw.out hb1)
  have HL1 := hid ho1
  have hg1 := ho1.block g1 rfl
  have hs1 := hb1.size
  rw [hsz] at hs1 hg1 HL1
  clear ho1 hb1 HP HR HO HBw HA hsz
  obtain ⟨p0, p1, p2, _⟩ := HP1.out.three
  obtain ⟨o0, o1, o2, f0, f1, f2⟩ := HO1.out.three
  have HO2 := hid (HO1.out.set 1 (.slice (some ⟨g1, 0, none⟩) x1.length x1.length))
  have HP2 := hid (HP1.out.other (b' := w.heap.size + 1 + 1) (by omega) 1 (.slice (some ⟨g1, 0, none⟩) x1.length x1.length))
  have HR2 := hid (HR1.out.other (b' := w.heap.size + 1 + 1) (by omega) 1 (.slice (some ⟨g1, 0, none⟩) x1.length x1.length))
  have HB2 := hid (below_cell HB1.out (show w.heap.size ≤ w.heap.size + 1 + 1 by omega) 1 (.slice (some ⟨g1, 0, none⟩) x1.length x1.length))
  have HL2 := hid (HL1.out.kept (grown_set w1 (w.heap.size + 1 + 1) 1 (.slice (some ⟨g1, 0, none⟩) x1.length x1.length)) (fun j e => by cases e; omega))
  have H22 := hid (H2.out.later HB2.out)
  obtain ⟨p0', p1', p2', _⟩ := HP2.out.three
  have hs2 : w.heap.size + 3 ≤ (w1.setCell ⟨w.heap.size + 1 + 1, 1, none⟩ (.slice (some ⟨g1, 0, none⟩) x1.length x1.length)).heap.size := by simpa [World.setCell] using hs1
  have hg2 : g1 < (w1.setCell ⟨w.heap.size + 1 + 1, 1, none⟩ (.slice (some ⟨g1, 0, none⟩) x1.length x1.length)).heap.size := by simpa [World.setCell] using hg1.2
  clear HP1 HR1 HO1 HB1 HL1
  go_wp2_with fail
  generalize (w1.setCell ⟨w.heap.size + 1 + 1, 1, none⟩ (.slice (some ⟨g1, 0, none⟩) x1.length x1.length)) = w2 at *
  refine (HB.out _ H22.out).mono ?_
  rintro e w3 ⟨g3, rfl, ho3, hb3⟩
  have HR3 := hid (HR2.out.later hb3)
  have HO3 := hid (HO2.out.later hb3)
  have HB3 := hid (bthen HB2.out hb3)
  have HL3 := hid (HL2.out.later hb3)
  have HM3 := hid (App.Ow.mono ho3 (show w.heap.size + 3 ≤ w2.heap.size by omega))
  have hne : g1 ≠ g3 := by have := (ho3.block g3 rfl).1; omega
  clear ho3 hb3 HP2 HR2 HO2 HB2 HL2 H22 HB p0 p1 p2 o0 o1 o2 f0 f1 f2 p0' p1' p2'
  obtain ⟨o0, o1, o2, f0, f1, f2⟩ := HO3.out.three
  obtain ⟨r0, r1, r2, q0, q1, q2⟩ := HR3.out.three
  have HG := hid (grown_set w3 (w.heap.size + 1 + 1) 2 (.slice (some ⟨g3, 0, none⟩) x2.length x2.length))
  have HG2 := hid (LapS.grown_set3 (w3.setCell ⟨w.heap.size + 1 + 1, 2, none⟩ (.slice (some ⟨g3, 0, none⟩) x2.length x2.length)) (w.heap.size + 1) (.int .i64 s) (.slice (some ⟨g1, 0, none⟩) x1.length x1.length) (.slice (some ⟨g3, 0, none⟩) x2.length x2.length))
  have HF : Hid (OWS (w.heap.size + 1) ((((w3.setCell ⟨w.heap.size + 1 + 1, 2, none⟩ (.slice (some ⟨g3, 0, none⟩) x2.length x2.length)).setCell ⟨w.heap.size + 1, 0, none⟩ (.int .i64 s)).setCell ⟨w.heap.size + 1, 1, none⟩ (.slice (some ⟨g1, 0, none⟩) x1.length x1.length)).setCell ⟨w.heap.size + 1, 2, none⟩ (.slice (some ⟨g3, 0, none⟩) x2.length x2.length)) [(.slice (some ⟨g1, 0, none⟩) x1.length x1.length, x1), (.slice (some ⟨g3, 0, none⟩) x2.length x2.length, x2)]) := by
    refine OWS.two ?_ ?_ (fun g e1 e2 => by simp [Value.ownBlock] at e1 e2; omega)
    · exact App.Ow.mono ((HL3.out.kept HG.out (fun j e => by cases e; omega)).kept HG2.out (fun j e => by cases e; omega)) (by omega)
    · exact App.Ow.mono ((HM3.out.kept HG.out (fun j e => by cases e; omega)).kept HG2.out (fun j e => by cases e; omega)) (by omega)
  have HBf := hid (below_cell (below_cell (below_cell (below_cell HB3.out (show w.heap.size ≤ w.heap.size + 1 + 1 by omega) 2 (.slice (some ⟨g3, 0, none⟩) x2.length x2.length)) (show w.heap.size ≤ w.heap.size + 1 by omega) 0 (.int .i64 s)) (show w.heap.size ≤ w.heap.size + 1 by omega) 1 (.slice (some ⟨g1, 0, none⟩) x1.length x1.length)) (show w.heap.size ≤ w.heap.size + 1 by omega) 2 (.slice (some ⟨g3, 0, none⟩) x2.length x2.length))
  clear HR3 HO3 HB3 HL3 HM3 HG HG2
  go_wp2
  exact bodyPost_ret (v := .agg #[.int .i64 s, .slice (some ⟨g1, 0, none⟩) x1.length x1.length, .slice (some ⟨g3, 0, none⟩) x2.length x2.length]) (by simp [results, Try.results13, go_sem, r0, r1, r2]) rfl ⟨_, _, rfl, HF.out, HBf.out⟩
end Go.Proofs.Ytnbmilhaohhnjaa.LapX

namespace Go.Proofs.Ytnbmilhaohhnjaa.LapY
open Go.ChangeShapes Go.WideShapes Go.ChangeAt Go.RowKit Go.Proofs.Ytnbmilhaohhnjaa.Num Go.Proofs.Ytnbmilhaohhnjaa.Sli Go.Proofs.Ytnbmilhaohhnjaa.App Go.Proofs.Ytnbmilhaohhnjaa.Blk Go.Proofs.Ytnbmilhaohhnjaa.IntL Go.Proofs.Ytnbmilhaohhnjaa.OwsG
open Go.Proofs.Ytnbmilhaohhnjaa.ToInt (eqInt64S_calls)

theorem eqLap_calls (s : Int) (v1 v2 u1 u2 : Value) (x1 x2 : List Int) (w : World) (h1 : Sl .i64 w v1 x1) (h2 : Sl .i64 w v2 x2) (k1 : Sl .i64 w u1 x1) (k2 : Sl .i64 w u2 x2) (m1 : x1.length ≤ 1048576) (m2 : x2.length ≤ 1048576) :
    Calls Try.prog 10 #[.agg #[.int .i64 s, v1, v2], .agg #[.int .i64 s, u1, u2]] w fun e w' => e = .returned (.bool true) ∧ Below w.heap.size w w' := by
  have hb := bmore (bmore (Below.refl _ w) (.cells #[.int .i64 s, v1, v2] 27)) (.cells #[.int .i64 s, u1, u2] 27)
  have H1 := hid (h1.later hb)
  have H2 := hid (h2.later hb)
  have K1 := hid (k1.later hb)
  have K2 := hid (k2.later hb)
  have HB := hid hb
  obtain ⟨a1, c1, rfl, -⟩ := id h1
  obtain ⟨a2, c2, rfl, -⟩ := id h2
  obtain ⟨a3, c3, rfl, -⟩ := id k1
  obtain ⟨a4, c4, rfl, -⟩ := id k2
  clear h1 h2 k1 k2 hb
  go_enter Try.func10, Try.ntmps10
  go_wp2_with fail
  refine (eqInt64S_calls _ _ x1 _ H1.out K1.out m1).mono ?_
  rintro e w1 ⟨rfl, hb1⟩
  have H21 := hid (H2.out.later hb1)
  have K21 := hid (K2.out.later hb1)
  have HB1 := hid (bthen HB.out hb1)
  obtain ⟨hP, hQ, _, _⟩ := boxes2 hb1
  obtain ⟨p0, p1, p2, _⟩ := hP.three
  obtain ⟨q0, q1, q2, _⟩ := hQ.three
  clear hb1 hP hQ H1 H2 K1 K2 HB
  go_wp2_with fail
  refine (eqInt64S_calls _ _ x2 _ H21.out K21.out m2).mono ?_
  rintro e w2 ⟨rfl, hb2⟩
  have HB2 := hid (bthen HB1.out hb2)
  clear hb2 H21 K21 HB1
  go_wp2
  go_ret
  exact ⟨rfl, HB2.out⟩
theorem eqSynth_calls (s : Int) (v1 v2 u1 u2 : Value) (x1 x2 : List Int) (w : World) (h1 : Sl .i64 w v1 x1) (h2 : Sl .i64 w v2 x2) (k1 : Sl .i64 w u1 x1) (k2 : Sl .i64 w u2 x2) (m1 : x1.length ≤ 1048576) (m2 : x2.length ≤ 1048576) :
    Calls Try.prog 15 #[.agg #[.int .i64 s, v1, v2], .agg #[.int .i64 s, u1, u2]] w fun e w' => e = .returned (.bool true) ∧ Below w.heap.size w w' := by
  have hb := bmore (bmore (Below.refl _ w) (.cells #[.int .i64 s, v1, v2] 35)) (.cells #[.int .i64 s, u1, u2] 35)
  have H1 := hid (h1.later hb)
  have H2 := hid (h2.later hb)
  have K1 := hid (k1.later hb)
  have K2 := hid (k2.later hb)
  have HB := hid hb
  obtain ⟨a1, c1, rfl, -⟩ := id h1
  obtain ⟨a2, c2, rfl, -⟩ := id h2
  obtain ⟨a3, c3, rfl, -⟩ := id k1
  obtain ⟨a4, c4, rfl, -⟩ := id k2
  clear h1 h2 k1 k2 hb
  go_enter Try.func15, Try.ntmps15
  go_wp2_with fail
  refine (eqInt64S_calls _ _ x1 _ H1.out K1.out m1).mono ?_
  rintro e w1 ⟨rfl, hb1⟩
  have H21 := hid (H2.out.later hb1)
  have K21 := hid (K2.out.later hb1)
  have HB1 := hid (bthen HB.out hb1)
  obtain ⟨hP, hQ, _, _⟩ := boxes2 hb1
  obtain ⟨p0, p1, p2, _⟩ := hP.three
  obtain ⟨q0, q1, q2, _⟩ := hQ.three
  clear hb1 hP hQ H1 H2 K1 K2 HB
  go_wp2_with fail
  refine (eqInt64S_calls _ _ x2 _ H21.out K21.out m2).mono ?_
  rintro e w2 ⟨rfl, hb2⟩
  have HB2 := hid (bthen HB1.out hb2)
  clear hb2 H21 K21 HB1
  go_wp2
  go_ret
  exact ⟨rfl, HB2.out⟩
end Go.Proofs.Ytnbmilhaohhnjaa.LapY

namespace Go.Proofs.Ytnbmilhaohhnjaa.LapZ
open Go.ChangeShapes Go.WideShapes Go.ChangeAt Go.RowKit Go.Proofs.Ytnbmilhaohhnjaa.Num Go.Proofs.Ytnbmilhaohhnjaa.Sli Go.Proofs.Ytnbmilhaohhnjaa.App Go.Proofs.Ytnbmilhaohhnjaa.Blk Go.Proofs.Ytnbmilhaohhnjaa.IntL Go.Proofs.Ytnbmilhaohhnjaa.OwsG Go.Proofs.Ytnbmilhaohhnjaa.LapY
open Go.Proofs.Ytnbmilhaohhnjaa.ToInt (eqInt64S_calls)

end Go.Proofs.Ytnbmilhaohhnjaa.LapZ

namespace Go.Proofs.Ytnbmilhaohhnjaa.ExLf
open Go.ChangeShapes Go.WideShapes Go.ChangeAt Go.RowKit Go.Proofs.Ytnbmilhaohhnjaa.Num Go.Proofs.Ytnbmilhaohhnjaa.Sli Go.Proofs.Ytnbmilhaohhnjaa.App Go.Proofs.Ytnbmilhaohhnjaa.Blk Go.Proofs.Ytnbmilhaohhnjaa.LapM Go.Proofs.Ytnbmilhaohhnjaa.IntL Go.Proofs.Ytnbmilhaohhnjaa.OwsG Go.Proofs.Ytnbmilhaohhnjaa.LapS Go.Proofs.Ytnbmilhaohhnjaa.LapX Go.Proofs.Ytnbmilhaohhnjaa.LapY Go.Proofs.Ytnbmilhaohhnjaa.LapZ

/-- A lap or a synth in its block, and what its lists hold. -/
structure PL (w : World) (b : Nat) (s : Int) (v1 v2 : Value) (x1 x2 : List Int) (t : TypeId) (W : World) : Prop where
  p : Blk W b #[.int .i64 s, v1, v2] t
  s1 : Sl .i64 W v1 x1
  s2 : Sl .i64 W v2 x2
  l : Below w.heap.size w W
section
variable {w W W' : World} {b : Nat} {s : Int} {v1 v2 : Value} {x1 x2 : List Int} {t : TypeId}
theorem PL.later (h : PL w b s v1 v2 x1 x2 t W) (hb : Below W.heap.size W W') : PL w b s v1 v2 x1 x2 t W' := ⟨h.p.later hb, h.s1.later hb, h.s2.later hb, bthen h.l hb⟩
theorem PL.alloc (h : PL w b s v1 v2 x1 x2 t W) (o : Obj) : PL w b s v1 v2 x1 x2 t (W.alloc o) := h.later (bmore (Below.refl _ _) o)
theorem PL.drew (h : PL w b s v1 v2 x1 x2 t W) : PL w b s v1 v2 x1 x2 t W.drew := ⟨h.p, h.s1, h.s2, h.l.drew⟩
theorem PL.new (s : Int) (t : TypeId) (h1 : Sl .i64 w v1 x1) (h2 : Sl .i64 w v2 x2) : PL w w.heap.size s v1 v2 x1 x2 t (w.alloc (.cells #[.int .i64 s, v1, v2] t)) :=
  let hb := bmore (Below.refl _ w) (.cells #[.int .i64 s, v1, v2] t)
  ⟨Blk.new _ _ _, h1.later hb, h2.later hb, hb⟩
/-- A copy that was just boxed. -/
theorem PL.boxed {w1 : World} (s : Int) (t : TypeId) (h1 : Sl .i64 w1 v1 x1) (h2 : Sl .i64 w1 v2 x2) (hl : Below w.heap.size w w1) : PL w w1.heap.size s v1 v2 x1 x2 t (w1.alloc (.cells #[.int .i64 s, v1, v2] t)) :=
  let hb := bmore (Below.refl _ w1) (.cells #[.int .i64 s, v1, v2] t)
  ⟨Blk.new _ _ _, h1.later hb, h2.later hb, bthen hl hb⟩
end
set_option maxHeartbeats 2000000 in
theorem exactLapFault_calls (s : Int) (a1 a2 : Option Addr) (c1 c2 : Nat) (x1 x2 : List Int) (w : World) (h1 : Sl .i64 w (.slice a1 x1.length c1) x1) (h2 : Sl .i64 w (.slice a2 x2.length c2) x2) (m1 : x1.length ≤ maxLen) (m2 : x2.length ≤ maxLen)
    (HI0 : ∀ (s : Int) (v1 v2 : Value) (x1 x2 : List Int) (W : World), Below w.heap.size w W → Sl .i64 W v1 x1 → Sl .i64 W v2 x2 → x1.length ≤ 1048576 → x2.length ≤ 1048576 → Calls Try.prog 9 #[.agg #[.int .i64 s, v1, v2]] W fun e w' => e = .returned (.int .i64 (lfC s x1 x2)) ∧ Below W.heap.size W w') :
    Calls Try.prog 3 #[.agg #[.int .i64 s, .slice a1 x1.length c1, .slice a2 x2.length c2]] w fun e w' => e = .returned (.bool true) ∧ Below w.heap.size w w' := by
  have HI := hid HI0
  have HP := hid (PL.new s 24 h1 h2)
  have HZ := hid (fun W => szLap_calls s 1048576 a1 a2 x1.length x2.length c1 c2 W m1 m2 (by omega) (by omega))
  clear HI0 h1 h2 m1 m2
  obtain ⟨p0, p1, p2, _⟩ := HP.out.p.three
  by_cases hbig : ((x1.length + x2.length : Nat) : Int) ≤ 1048576
  · rw [szV_yes hbig] at HZ
    have l1 : x1.length ≤ 1048576 := by omega
    have l2 : x2.length ≤ 1048576 := by omega
    have hz : 0 ≤ 1048576 - ((x1.length + x2.length : Nat) : Int) := by omega
    clear hbig
    generalize 1048576 - ((x1.length + x2.length : Nat) : Int) = z at *
    go_enter Try.func3, Try.ntmps3
    go_wp2_with fail
    refine (HZ.out _).mono ?_
    rintro e w1 ⟨rfl, hb⟩
    have HP1 := hid (HP.out.later hb)
    clear hb HP p0 p1 p2 HZ
    obtain ⟨p0, p1, p2, _⟩ := HP1.out.p.three
    go_wp2_with fail
    refine (toLap_calls s _ _ x1 x2 _ HP1.out.s1 HP1.out.s2 l1 l2).mono ?_
    rintro e w2 ⟨g1, g2, rfl, ho, hb⟩
    have HP2 := hid (HP1.out.later hb)
    clear hb HP1 p0 p1 p2
    go_wp2_with fail
    refine (specLapFault_calls s _ _ x1 x2 _ ho.h1.sl ho.h2.sl l1 l2).mono ?_
    rintro e w3 ⟨rfl, hb⟩
    have HP3 := hid (HP2.out.later hb)
    clear hb HP2 ho
    obtain ⟨p0, p1, p2, _⟩ := HP3.out.p.three
    go_wp2_with fail
    refine (toLap_calls s _ _ x1 x2 _ HP3.out.s1 HP3.out.s2 l1 l2).mono ?_
    rintro e w4 ⟨g3, g4, rfl, ho, hb⟩
    have HP4 := hid ((HP3.out.later hb).alloc (.cells #[.int .i64 s, .slice (some ⟨g3, 0, none⟩) x1.length x1.length, .slice (some ⟨g4, 0, none⟩) x2.length x2.length] 27))
    have HX4 := hid (PL.boxed s 27 ho.h1.sl ho.h2.sl (HP3.out.later hb).l)
    clear hb HP3 ho p0 p1 p2
    go_wp2_with fail
    refine (HI.out s _ _ x1 x2 _ HP4.out.l HX4.out.s1 HX4.out.s2 l1 l2).mono ?_
    rintro e w6 ⟨rfl, hb⟩
    have hHK : PL w w.heap.size s (.slice a1 x1.length c1) (.slice a2 x2.length c2) x1 x2 24 w6.drew ∧ PL w w4.heap.size s (.slice (some ⟨g3, 0, none⟩) x1.length x1.length) (.slice (some ⟨g4, 0, none⟩) x2.length x2.length) x1 x2 27 w6.drew := ⟨(HP4.out.later hb).drew, (HX4.out.later hb).drew⟩
    clear hb HP4 HX4
    generalize w4.heap.size = B4 at *
    generalize lfC s x1 x2 = c at *
    go_wp2_with fail
    refine wp_region_noPanic ?_
    refine wp_region_held_drew (S := fun W => PL w w.heap.size s (.slice a1 x1.length c1) (.slice a2 x2.length c2) x1 x2 24 W ∧ PL w B4 s (.slice (some ⟨g3, 0, none⟩) x1.length x1.length) (.slice (some ⟨g4, 0, none⟩) x2.length x2.length) x1 x2 27 W) (by kernel_rfl) ?_ (fun hHeld => ?_)
    · assumption
    (refine wpAnyH_take (i := 0) (v := ?_) rfl (by kernel_rfl) (by kernel_rfl) (by kernel_rfl) (fun _ _ _ h => h) (Or.inl ⟨by rfl, ?_⟩) hHeld ?_; rotate_left; (intro w hSw; (obtain ⟨p0, p1, p2, _⟩ := hSw.1.p.three; obtain ⟨q0, q1, q2, _⟩ := hSw.2.p.three; clear hSw); (go_simp <;> with_reducible rfl)); simp only [List.getElem_toArray, List.getElem_cons_zero, Act.put, List.setIfInBounds_toArray, List.set_cons_zero, List.set_cons_succ])
    (refine wpAnyH_take (i := 1) (v := ?_) rfl (by kernel_rfl) (by kernel_rfl) (by kernel_rfl) (fun _ _ _ h => h) (Or.inl ⟨by rfl, ?_⟩) hHeld ?_; rotate_left; (intro w hSw; (obtain ⟨p0, p1, p2, _⟩ := hSw.1.p.three; obtain ⟨q0, q1, q2, _⟩ := hSw.2.p.three; clear hSw); (go_simp <;> with_reducible rfl)); simp only [List.getElem_toArray, List.getElem_cons_zero, List.getElem_cons_succ, Act.put, List.setIfInBounds_toArray, List.set_cons_zero, List.set_cons_succ])
    (refine wpAnyH_ready (rs := [2]) (by kernel_rfl) (by simp) ?_; refine AllReadyH.cons rfl (fun K hK => ?_) AllReadyH.nil; go_simp; (refine (toLap_calls s _ _ x1 x2 _ hHeld.1.s1 hHeld.1.s2 l1 l2).mono ?_; rintro e w7 ⟨g5, g6, rfl, ho7, hb7⟩; have hK' := And.intro (hHeld.1.later hb7) (hHeld.2.later hb7)); refine hK.out _ _ ?_ (fun hHeld => ?_); (assumption); clear hK K; try dsimp only)
    (refine wpAnyH_ready (rs := [3]) (by kernel_rfl) (by simp) ?_; refine AllReadyH.cons rfl (fun K hK => ?_) AllReadyH.nil; go_simp; (refine (eqLap_calls s _ _ _ _ x1 x2 _ hHeld.2.s1 hHeld.2.s2 ho7.h1.sl ho7.h2.sl l1 l2).mono ?_; rintro e w8 ⟨rfl, hb8⟩; have hK'' := And.intro (hHeld.1.later hb8) (hHeld.2.later hb8)); refine hK.out _ _ ?_ (fun hHeld => ?_); (assumption); clear hK K; try dsimp only)
    (refine wpAnyH_take (i := 4) (v := ?_) rfl (by kernel_rfl) (by kernel_rfl) (by kernel_rfl) (fun _ _ _ h => h) (Or.inl ⟨by rfl, ?_⟩) hHeld ?_; rotate_left; (intro w hSw; (obtain ⟨p0, p1, p2, _⟩ := hSw.1.p.three; obtain ⟨q0, q1, q2, _⟩ := hSw.2.p.three; clear hSw); (go_simp <;> with_reducible rfl)); simp only [List.getElem_toArray, List.getElem_cons_zero, List.getElem_cons_succ, Act.put, List.setIfInBounds_toArray, List.set_cons_zero, List.set_cons_succ])
    refine wpAnyH_done (by kernel_rfl) ?_ _
    refine NoPanic.normal ?_
    have HL := hid hHeld.1.l
    clear hHeld
    go_wp2
    go_ret
    exact ⟨rfl, HL.out⟩
  · rw [szV_no hbig] at HZ
    clear hbig
    go_enter Try.func3, Try.ntmps3
    go_wp2_with fail
    refine (HZ.out _).mono ?_
    rintro e w1 ⟨rfl, hb⟩
    have HL := hid (bthen HP.out.l hb)
    clear hb HP p0 p1 p2 HZ
    go_wp2
    go_ret
    exact ⟨rfl, HL.out⟩
set_option maxHeartbeats 2000000 in
theorem exactSynthFault_calls (s : Int) (a1 a2 : Option Addr) (c1 c2 : Nat) (x1 x2 : List Int) (w : World) (h1 : Sl .i64 w (.slice a1 x1.length c1) x1) (h2 : Sl .i64 w (.slice a2 x2.length c2) x2) (m1 : x1.length ≤ maxLen) (m2 : x2.length ≤ maxLen)
    (HI0 : ∀ (s : Int) (v1 v2 : Value) (x1 x2 : List Int) (W : World), Below w.heap.size w W → Sl .i64 W v1 x1 → Sl .i64 W v2 x2 → x1.length ≤ 1048576 → x2.length ≤ 1048576 → Calls Try.prog 14 #[.agg #[.int .i64 s, v1, v2]] W fun e w' => e = .returned (.int .i64 (syC s x1 x2)) ∧ Below W.heap.size W w') :
    Calls Try.prog 4 #[.agg #[.int .i64 s, .slice a1 x1.length c1, .slice a2 x2.length c2]] w fun e w' => e = .returned (.bool true) ∧ Below w.heap.size w w' := by
  have HI := hid HI0
  have HP := hid (PL.new s 32 h1 h2)
  have HZ := hid (fun W => szSynth_calls s 1048576 a1 a2 x1.length x2.length c1 c2 W m1 m2 (by omega) (by omega))
  clear HI0 h1 h2 m1 m2
  obtain ⟨p0, p1, p2, _⟩ := HP.out.p.three
  by_cases hbig : ((x1.length + x2.length : Nat) : Int) ≤ 1048576
  · rw [szV_yes hbig] at HZ
    have l1 : x1.length ≤ 1048576 := by omega
    have l2 : x2.length ≤ 1048576 := by omega
    have hz : 0 ≤ 1048576 - ((x1.length + x2.length : Nat) : Int) := by omega
    clear hbig
    generalize 1048576 - ((x1.length + x2.length : Nat) : Int) = z at *
    go_enter Try.func4, Try.ntmps4
    go_wp2_with fail
    refine (HZ.out _).mono ?_
    rintro e w1 ⟨rfl, hb⟩
    have HP1 := hid (HP.out.later hb)
    clear hb HP p0 p1 p2 HZ
    obtain ⟨p0, p1, p2, _⟩ := HP1.out.p.three
    go_wp2_with fail
    refine (toSynth_calls s _ _ x1 x2 _ HP1.out.s1 HP1.out.s2 l1 l2).mono ?_
    rintro e w2 ⟨g1, g2, rfl, ho, hb⟩
    have HP2 := hid (HP1.out.later hb)
    clear hb HP1 p0 p1 p2
    go_wp2_with fail
    refine (specSynthFault_calls s _ _ x1 x2 _ ho.h1.sl ho.h2.sl l1 l2).mono ?_
    rintro e w3 ⟨rfl, hb⟩
    have HP3 := hid (HP2.out.later hb)
    clear hb HP2 ho
    obtain ⟨p0, p1, p2, _⟩ := HP3.out.p.three
    go_wp2_with fail
    refine (toSynth_calls s _ _ x1 x2 _ HP3.out.s1 HP3.out.s2 l1 l2).mono ?_
    rintro e w4 ⟨g3, g4, rfl, ho, hb⟩
    have HP4 := hid ((HP3.out.later hb).alloc (.cells #[.int .i64 s, .slice (some ⟨g3, 0, none⟩) x1.length x1.length, .slice (some ⟨g4, 0, none⟩) x2.length x2.length] 35))
    have HX4 := hid (PL.boxed s 35 ho.h1.sl ho.h2.sl (HP3.out.later hb).l)
    clear hb HP3 ho p0 p1 p2
    go_wp2_with fail
    refine (HI.out s _ _ x1 x2 _ HP4.out.l HX4.out.s1 HX4.out.s2 l1 l2).mono ?_
    rintro e w6 ⟨rfl, hb⟩
    have hHK : PL w w.heap.size s (.slice a1 x1.length c1) (.slice a2 x2.length c2) x1 x2 32 w6.drew ∧ PL w w4.heap.size s (.slice (some ⟨g3, 0, none⟩) x1.length x1.length) (.slice (some ⟨g4, 0, none⟩) x2.length x2.length) x1 x2 35 w6.drew := ⟨(HP4.out.later hb).drew, (HX4.out.later hb).drew⟩
    clear hb HP4 HX4
    generalize w4.heap.size = B4 at *
    generalize syC s x1 x2 = c at *
    go_wp2_with fail
    refine wp_region_noPanic ?_
    refine wp_region_held_drew (S := fun W => PL w w.heap.size s (.slice a1 x1.length c1) (.slice a2 x2.length c2) x1 x2 32 W ∧ PL w B4 s (.slice (some ⟨g3, 0, none⟩) x1.length x1.length) (.slice (some ⟨g4, 0, none⟩) x2.length x2.length) x1 x2 35 W) (by kernel_rfl) ?_ (fun hHeld => ?_)
    · assumption
    (refine wpAnyH_take (i := 0) (v := ?_) rfl (by kernel_rfl) (by kernel_rfl) (by kernel_rfl) (fun _ _ _ h => h) (Or.inl ⟨by rfl, ?_⟩) hHeld ?_; rotate_left; (intro w hSw; (obtain ⟨p0, p1, p2, _⟩ := hSw.1.p.three; obtain ⟨q0, q1, q2, _⟩ := hSw.2.p.three; clear hSw); (go_simp <;> with_reducible rfl)); simp only [List.getElem_toArray, List.getElem_cons_zero, Act.put, List.setIfInBounds_toArray, List.set_cons_zero, List.set_cons_succ])
    (refine wpAnyH_take (i := 1) (v := ?_) rfl (by kernel_rfl) (by kernel_rfl) (by kernel_rfl) (fun _ _ _ h => h) (Or.inl ⟨by rfl, ?_⟩) hHeld ?_; rotate_left; (intro w hSw; (obtain ⟨p0, p1, p2, _⟩ := hSw.1.p.three; obtain ⟨q0, q1, q2, _⟩ := hSw.2.p.three; clear hSw); (go_simp <;> with_reducible rfl)); simp only [List.getElem_toArray, List.getElem_cons_zero, List.getElem_cons_succ, Act.put, List.setIfInBounds_toArray, List.set_cons_zero, List.set_cons_succ])
    (refine wpAnyH_ready (rs := [2]) (by kernel_rfl) (by simp) ?_; refine AllReadyH.cons rfl (fun K hK => ?_) AllReadyH.nil; go_simp; (refine (toSynth_calls s _ _ x1 x2 _ hHeld.1.s1 hHeld.1.s2 l1 l2).mono ?_; rintro e w7 ⟨g5, g6, rfl, ho7, hb7⟩; have hK' := And.intro (hHeld.1.later hb7) (hHeld.2.later hb7)); refine hK.out _ _ ?_ (fun hHeld => ?_); (assumption); clear hK K; try dsimp only)
    (refine wpAnyH_ready (rs := [3]) (by kernel_rfl) (by simp) ?_; refine AllReadyH.cons rfl (fun K hK => ?_) AllReadyH.nil; go_simp; (refine (eqSynth_calls s _ _ _ _ x1 x2 _ hHeld.2.s1 hHeld.2.s2 ho7.h1.sl ho7.h2.sl l1 l2).mono ?_; rintro e w8 ⟨rfl, hb8⟩; have hK'' := And.intro (hHeld.1.later hb8) (hHeld.2.later hb8)); refine hK.out _ _ ?_ (fun hHeld => ?_); (assumption); clear hK K; try dsimp only)
    (refine wpAnyH_take (i := 4) (v := ?_) rfl (by kernel_rfl) (by kernel_rfl) (by kernel_rfl) (fun _ _ _ h => h) (Or.inl ⟨by rfl, ?_⟩) hHeld ?_; rotate_left; (intro w hSw; (obtain ⟨p0, p1, p2, _⟩ := hSw.1.p.three; obtain ⟨q0, q1, q2, _⟩ := hSw.2.p.three; clear hSw); (go_simp <;> with_reducible rfl)); simp only [List.getElem_toArray, List.getElem_cons_zero, List.getElem_cons_succ, Act.put, List.setIfInBounds_toArray, List.set_cons_zero, List.set_cons_succ])
    refine wpAnyH_done (by kernel_rfl) ?_ _
    refine NoPanic.normal ?_
    have HL := hid hHeld.1.l
    clear hHeld
    go_wp2
    go_ret
    exact ⟨rfl, HL.out⟩
  · rw [szV_no hbig] at HZ
    clear hbig
    go_enter Try.func4, Try.ntmps4
    go_wp2_with fail
    refine (HZ.out _).mono ?_
    rintro e w1 ⟨rfl, hb⟩
    have HL := hid (bthen HP.out.l hb)
    clear hb HP p0 p1 p2 HZ
    go_wp2
    go_ret
    exact ⟨rfl, HL.out⟩
end Go.Proofs.Ytnbmilhaohhnjaa.ExLf
