/- The laws' own helpers over laps and synths: their size, copies of them. || The laws' own helpers over laps and synths: whether two are the same, marks that are written into their lists and found there again. || The laws' own helpers over answers that hold laps and synths. || The walks through the exact laws of faults of laps and synths, and of whether two are the same, for a program that answers by the common answers. Condition: the program's own contract, wherever nothing that was there before has turned. -/
import Derived.Test.YtgnbailcibhenaaDoorGa
import Derived.Test.YtgnbailcibhenaaDoorLapS
import Derived.Deep.RegionHeld3
namespace Go.Proofs.YtgnbailcibhenaaDoor.LapX
open Go.ChangeShapes Go.WideShapes Go.ChangeAt Go.RowKit Go.Proofs.YtgnbailcibhenaaDoor.Num Go.Proofs.YtgnbailcibhenaaDoor.Sli Go.Proofs.YtgnbailcibhenaaDoor.App Go.Proofs.YtgnbailcibhenaaDoor.Blk Go.Proofs.YtgnbailcibhenaaDoor.IntL Go.Proofs.YtgnbailcibhenaaDoor.OwsG

/-- What is left when n more are counted. -/
def szV (n : Nat) (left : Int) : Int := if (n : Int) ≤ left then left - n else -1
theorem szV_yes {n : Nat} {left : Int} (h : (n : Int) ≤ left) : szV n left = left - n := if_pos h
theorem szV_no {n : Nat} {left : Int} (h : ¬ (n : Int) ≤ left) : szV n left = -1 := if_neg h
theorem szI_calls (a : Option Addr) (n cap : Nat) (left : Int) (w : World) (hn : n ≤ maxLen) (h0 : 0 ≤ left) (h1 : left ≤ 1048576) :
    Calls Tryd.prog 71 #[.slice a n cap, .int .i64 left] w fun e w' => e = .returned (.int .i64 (szV n left)) ∧ w' = w := by
  have hn' : (n : Int) ≤ 9223372036854775807 := by unfold maxLen at hn; omega
  by_cases h : (n : Int) ≤ left
  · rw [szV_yes h]
    have h' : 0 ≤ left - (n : Int) := by omega
    go_enter Tryd.func71, Tryd.ntmps71
    go_wp2
    go_ret
    exact ⟨rfl, rfl⟩
  · rw [szV_no h]
    have h' : left - (n : Int) < 0 := by omega
    go_enter Tryd.func71, Tryd.ntmps71
    go_wp2
    go_ret
    exact ⟨rfl, rfl⟩
theorem szLap_calls (s left : Int) (a1 a2 : Option Addr) (n1 n2 c1 c2 : Nat) (w : World) (h1 : n1 ≤ maxLen) (h2 : n2 ≤ maxLen) (h3 : 0 ≤ left) (h4 : left ≤ 1048576) :
    Calls Tryd.prog 22 #[.agg #[.int .i64 s, .slice a1 n1 c1, .slice a2 n2 c2], .int .i64 left] w fun e w' => e = .returned (.int .i64 (szV (n1 + n2) left)) ∧ Below w.heap.size w w' := by
  have Hb := hid (bmore (Below.refl _ w) (.cells #[.int .i64 s, .slice a1 n1 c1, .slice a2 n2 c2] 57))
  by_cases e1 : (n1 : Int) ≤ left
  · have H1 := hid (fun W => szI_calls a1 n1 c1 left W h1 h3 h4)
    rw [szV_yes e1] at H1
    have H2 := hid (fun W => szI_calls a2 n2 c2 (left - n1) W h2 (by omega) (by omega))
    by_cases e2 : (n2 : Int) ≤ left - n1
    · rw [szV_yes e2] at H2
      rw [szV_yes (by omega), show left - ((n1 + n2 : Nat) : Int) = left - n1 - n2 by omega]
      have p1 : 0 ≤ left - (n1 : Int) := by omega
      have p2 : 0 ≤ left - (n1 : Int) - n2 := by omega
      clear e1 e2 h1 h2
      generalize left - (n1 : Int) - n2 = z2 at *
      generalize left - (n1 : Int) = z1 at *
      go_enter Tryd.func22, Tryd.ntmps22
      go_wp2_with fail
      refine (H1.out _).mono ?_
      rintro e w' ⟨rfl, rfl⟩
      go_wp2_with fail
      refine (H2.out _).mono ?_
      rintro e w' ⟨rfl, rfl⟩
      go_wp2
      go_ret
      exact ⟨rfl, Hb.out⟩
    · rw [szV_no e2] at H2
      rw [szV_no (by omega)]
      have p1 : 0 ≤ left - (n1 : Int) := by omega
      clear e1 e2 h1 h2
      generalize left - (n1 : Int) = z1 at *
      go_enter Tryd.func22, Tryd.ntmps22
      go_wp2_with fail
      refine (H1.out _).mono ?_
      rintro e w' ⟨rfl, rfl⟩
      go_wp2_with fail
      refine (H2.out _).mono ?_
      rintro e w' ⟨rfl, rfl⟩
      go_wp2
      go_ret
      exact ⟨rfl, Hb.out⟩
  · have H1 := hid (fun W => szI_calls a1 n1 c1 left W h1 h3 h4)
    rw [szV_no e1] at H1
    rw [szV_no (by omega)]
    clear e1 h1 h2
    go_enter Tryd.func22, Tryd.ntmps22
    go_wp2_with fail
    refine (H1.out _).mono ?_
    rintro e w' ⟨rfl, rfl⟩
    go_wp2
    go_ret
    exact ⟨rfl, Hb.out⟩
set_option maxHeartbeats 1000000 in
theorem toLap_calls (s : Int) (v1 v2 : Value) (x1 x2 : List Int) (w : World) (h1 : Sl .i64 w v1 x1) (h2 : Sl .i64 w v2 x2) (m1 : x1.length ≤ 1048576) (m2 : x2.length ≤ 1048576) :
    Calls Tryd.prog 23 #[.agg #[.int .i64 s, v1, v2]] w fun e w' => ∃ g1 g2, e = .returned (.agg #[.int .i64 s, .slice (some ⟨g1, 0, none⟩) x1.length x1.length, .slice (some ⟨g2, 0, none⟩) x2.length x2.length]) ∧
      OWS (w.heap.size + 1) w' [(.slice (some ⟨g1, 0, none⟩) x1.length x1.length, x1), (.slice (some ⟨g2, 0, none⟩) x2.length x2.length, x2)] ∧ Below w.heap.size w w' := by
  have HA := hid (fun W (q : Sl .i64 W v1 x1) => toInt64S_calls v1 x1 W q m1)
  have HB := hid (fun W (q : Sl .i64 W v2 x2) => toInt64S_calls v2 x2 W q m2)
  have H1 := hid h1
  have H2 := hid h2
  obtain ⟨a1, c1, rfl, -⟩ := id h1
  obtain ⟨a2, c2, rfl, -⟩ := id h2
  clear h1 h2
  obtain ⟨hp, hr, ho, hb, _⟩ := boxes3 (w := w) (A := #[.int .i64 s, .slice a1 x1.length c1, .slice a2 x2.length c2]) (B := #[.int .i64 0, .slice none 0 0, .slice none 0 0]) (C := #[.int .i64 s, .slice none 0 0, .slice none 0 0]) (t := 57) (u := 29) (s := 29) (Below.refl _ _)
  have HP := hid hp
  have HR := hid hr
  have HO := hid ho
  have HBw := hid hb
  clear hp hr ho hb
  go_enter Tryd.func23, Tryd.ntmps23
  go_wp2_with fail
  have hsz : ((((w.alloc (.cells #[.int .i64 s, .slice a1 x1.length c1, .slice a2 x2.length c2] 57)).alloc (.cells #[.int .i64 0, .slice none 0 0, .slice none 0 0] 29)).alloc (.cells #[.int .i64 s, .slice none 0 0, .slice none 0 0] 29))).heap.size = w.heap.size + 3 := by simp
  refine (HA.out _ (H1.out.later HBw.out)).mono ?_
  rintro e w1 ⟨g1, rfl, ho1, hb1⟩
  have HP1 := hid (HP.out.later hb1)
  have HR1 := hid (HR.out.later hb1)
  have HO1 := hid (HO.out.later hb1)
  have HB1 := hid (bthen HBw.out hb1)
  have HL1 := hid ho1
  have hg1 := ho1.block g1 rfl
  have hs1 := hb1.size
  rw [hsz] at hs1 hg1 HL1
  clear ho1 hb1 HP HR HO HBw HA hsz
  obtain ⟨p0, p1, p2, _⟩ := HP1.out.three
  obtain ⟨o0, o1, o2, f0, f1, f2⟩ := HO1.out.three
  have HO2 := hid (HO1.out.set 1 (.slice (some ⟨g1, 0, none⟩) x1.length x1.length))
  have HP2 := hid (HP1.out.other (b' := w.heap.size + 1 + 1) (by omega) 1 (.slice (some ⟨g1, 0, none⟩) x1.length x1.length))
  have HR2 := hid (HR1.out.other (b' := w.heap.size + 1 + 1) (by omega) 1 (.slice (some ⟨g1, 0, none⟩) x1.length x1.length))
  have HB2 := hid (below_cell HB1.out (show w.heap.size ≤ w.heap.size + 1 + 1 by omega) 1 (.slice (some ⟨g1, 0, none⟩) x1.length x1.length))
  have HL2 := hid (HL1.out.kept (grown_set w1 (w.heap.size + 1 + 1) 1 (.slice (some ⟨g1, 0, none⟩) x1.length x1.length)) (fun j e => by cases e; omega))
  have H22 := hid (H2.out.later HB2.out)
  obtain ⟨p0', p1', p2', _⟩ := HP2.out.three
  have hs2 : w.heap.size + 3 ≤ (w1.setCell ⟨w.heap.size + 1 + 1, 1, none⟩ (.slice (some ⟨g1, 0, none⟩) x1.length x1.length)).heap.size := by simpa [World.setCell] using hs1
  have hg2 : g1 < (w1.setCell ⟨w.heap.size + 1 + 1, 1, none⟩ (.slice (some ⟨g1, 0, none⟩) x1.length x1.length)).heap.size := by simpa [World.setCell] using hg1.2
  clear HP1 HR1 HO1 HB1 HL1
  go_wp2_with fail
  generalize (w1.setCell ⟨w.heap.size + 1 + 1, 1, none⟩ (.slice (some ⟨g1, 0, none⟩) x1.length x1.length)) = w2 at *
  refine (HB.out _ H22.out).mono ?_
  rintro e w3 ⟨g3, rfl, ho3, hb3⟩
  have HR3 := hid (HR2.out.later hb3)
  have HO3 := hid (HO2.out.later hb3)
  have HB3 := hid (bthen HB2.out hb3)
  have HL3 := hid (HL2.out.later hb3)
  have HM3 := hid (App.Ow.mono ho3 (show w.heap.size + 3 ≤ w2.heap.size by omega))
  have hne : g1 ≠ g3 := by have := (ho3.block g3 rfl).1; omega
  clear ho3 hb3 HP2 HR2 HO2 HB2 HL2 H22 HB p0 p1 p2 o0 o1 o2 f0 f1 f2 p0' p1' p2'
  obtain ⟨o0, o1, o2, f0, f1, f2⟩ := HO3.out.three
  obtain ⟨r0, r1, r2, q0, q1, q2⟩ := HR3.out.three
  have HG := hid (grown_set w3 (w.heap.size + 1 + 1) 2 (.slice (some ⟨g3, 0, none⟩) x2.length x2.length))
  have HG2 := hid (LapS.grown_set3 (w3.setCell ⟨w.heap.size + 1 + 1, 2, none⟩ (.slice (some ⟨g3, 0, none⟩) x2.length x2.length)) (w.heap.size + 1) (.int .i64 s) (.slice (some ⟨g1, 0, none⟩) x1.length x1.length) (.slice (some ⟨g3, 0, none⟩) x2.length x2.length))
  have HF : Hid (OWS (w.heap.size + 1) ((((w3.setCell ⟨w.heap.size + 1 + 1, 2, none⟩ (.slice (some ⟨g3, 0, none⟩) x2.length x2.length)).setCell ⟨w.heap.size + 1, 0, none⟩ (.int .i64 s)).setCell ⟨w.heap.size + 1, 1, none⟩ (.slice (some ⟨g1, 0, none⟩) x1.length x1.length)).setCell ⟨w.heap.size + 1, 2, none⟩ (.slice (some ⟨g3, 0, none⟩) x2.length x2.length)) [(.slice (some ⟨g1, 0, none⟩) x1.length x1.length, x1), (.slice (some ⟨g3, 0, none⟩) x2.length x2.length, x2)]) := by
    refine OWS.two ?_ ?_ (fun g e1 e2 => by simp [Value.ownBlock] at e1 e2; omega)
    · exact App.Ow.mono ((HL3.out.kept HG.out (fun j e => by cases e; omega)).kept HG2.out (fun j e => by cases e; omega)) (by omega)
    · exact App.Ow.mono ((HM3.out.kept HG.out (fun j e => by cases e; omega)).kept HG2.out (fun j e => by cases e; omega)) (by omega)
  have HBf := hid (below_cell (below_cell (below_cell (below_cell HB3.out (show w.heap.size ≤ w.heap.size + 1 + 1 by omega) 2 (.slice (some ⟨g3, 0, none⟩) x2.length x2.length)) (show w.heap.size ≤ w.heap.size + 1 by omega) 0 (.int .i64 s)) (show w.heap.size ≤ w.heap.size + 1 by omega) 1 (.slice (some ⟨g1, 0, none⟩) x1.length x1.length)) (show w.heap.size ≤ w.heap.size + 1 by omega) 2 (.slice (some ⟨g3, 0, none⟩) x2.length x2.length))
  clear HR3 HO3 HB3 HL3 HM3 HG HG2
  go_wp2
  exact bodyPost_ret (v := .agg #[.int .i64 s, .slice (some ⟨g1, 0, none⟩) x1.length x1.length, .slice (some ⟨g3, 0, none⟩) x2.length x2.length]) (by simp [results, Tryd.results23, go_sem, r0, r1, r2]) rfl ⟨_, _, rfl, HF.out, HBf.out⟩
theorem szSynth_calls (s left : Int) (a1 a2 : Option Addr) (n1 n2 c1 c2 : Nat) (w : World) (h1 : n1 ≤ maxLen) (h2 : n2 ≤ maxLen) (h3 : 0 ≤ left) (h4 : left ≤ 1048576) :
    Calls Tryd.prog 32 #[.agg #[.int .i64 s, .slice a1 n1 c1, .slice a2 n2 c2], .int .i64 left] w fun e w' => e = .returned (.int .i64 (szV (n1 + n2) left)) ∧ Below w.heap.size w w' := by
  have Hb := hid (bmore (Below.refl _ w) (.cells #[.int .i64 s, .slice a1 n1 c1, .slice a2 n2 c2] 66))
  by_cases e1 : (n1 : Int) ≤ left
  · have H1 := hid (fun W => szI_calls a1 n1 c1 left W h1 h3 h4)
    rw [szV_yes e1] at H1
    have H2 := hid (fun W => szI_calls a2 n2 c2 (left - n1) W h2 (by omega) (by omega))
    by_cases e2 : (n2 : Int) ≤ left - n1
    · rw [szV_yes e2] at H2
      rw [szV_yes (by omega), show left - ((n1 + n2 : Nat) : Int) = left - n1 - n2 by omega]
      have p1 : 0 ≤ left - (n1 : Int) := by omega
      have p2 : 0 ≤ left - (n1 : Int) - n2 := by omega
      clear e1 e2 h1 h2
      generalize left - (n1 : Int) - n2 = z2 at *
      generalize left - (n1 : Int) = z1 at *
      go_enter Tryd.func32, Tryd.ntmps32
      go_wp2_with fail
      refine (H1.out _).mono ?_
      rintro e w' ⟨rfl, rfl⟩
      go_wp2_with fail
      refine (H2.out _).mono ?_
      rintro e w' ⟨rfl, rfl⟩
      go_wp2
      go_ret
      exact ⟨rfl, Hb.out⟩
    · rw [szV_no e2] at H2
      rw [szV_no (by omega)]
      have p1 : 0 ≤ left - (n1 : Int) := by omega
      clear e1 e2 h1 h2
      generalize left - (n1 : Int) = z1 at *
      go_enter Tryd.func32, Tryd.ntmps32
      go_wp2_with fail
      refine (H1.out _).mono ?_
      rintro e w' ⟨rfl, rfl⟩
      go_wp2_with fail
      refine (H2.out _).mono ?_
      rintro e w' ⟨rfl, rfl⟩
      go_wp2
      go_ret
      exact ⟨rfl, Hb.out⟩
  · have H1 := hid (fun W => szI_calls a1 n1 c1 left W h1 h3 h4)
    rw [szV_no e1] at H1
    rw [szV_no (by omega)]
    clear e1 h1 h2
    go_enter Tryd.func32, Tryd.ntmps32
    go_wp2_with fail
    refine (H1.out _).mono ?_
    rintro e w' ⟨rfl, rfl⟩
    go_wp2
    go_ret
    exact ⟨rfl, Hb.out⟩
set_option maxHeartbeats 1000000 in
theorem toSynth_calls (s : Int) (v1 v2 : Value) (x1 x2 : List Int) (w : World) (h1 : Sl .i64 w v1 x1) (h2 : Sl .i64 w v2 x2) (m1 : x1.length ≤ 1048576) (m2 : x2.length ≤ 1048576) :
    Calls Tryd.prog 33 #[.agg #[.int .i64 s, v1, v2]] w fun e w' => ∃ g1 g2, e = .returned (.agg #[.int .i64 s, .slice (some ⟨g1, 0, none⟩) x1.length x1.length, .slice (some ⟨g2, 0, none⟩) x2.length x2.length]) ∧
      OWS (w.heap.size + 1) w' [(.slice (some ⟨g1, 0, none⟩) x1.length x1.length, x1), (.slice (some ⟨g2, 0, none⟩) x2.length x2.length, x2)] ∧ Below w.heap.size w w' := by
  have HA := hid (fun W (q : Sl .i64 W v1 x1) => toInt64S_calls v1 x1 W q m1)
  have HB := hid (fun W (q : Sl .i64 W v2 x2) => toInt64S_calls v2 x2 W q m2)
  have H1 := hid h1
  have H2 := hid h2
  obtain ⟨a1, c1, rfl, -⟩ := id h1
  obtain ⟨a2, c2, rfl, -⟩ := id h2
  clear h1 h2
  obtain ⟨hp, hr, ho, hb, _⟩ := boxes3 (w := w) (A := #[.int .i64 s, .slice a1 x1.length c1, .slice a2 x2.length c2]) (B := #[.int .i64 0, .slice none 0 0, .slice none 0 0]) (C := #[.int .i64 s, .slice none 0 0, .slice none 0 0]) (t := 66) (u := 34) (s := 34) (Below.refl _ _)
  have HP := hid hp
  have HR := hid hr
  have HO := hid ho
  have HBw := hid hb
  clear hp hr ho hb
  go_enter Tryd.func33, Tryd.ntmps33
  go_wp2_with fail
  have hsz : ((((w.alloc (.cells #[.int .i64 s, .slice a1 x1.length c1, .slice a2 x2.length c2] 66)).alloc (.cells #[.int .i64 0, .slice none 0 0, .slice none 0 0] 34)).alloc (.cells #[.int .i64 s, .slice none 0 0, .slice none 0 0] 34))).heap.size = w.heap.size + 3 := by simp
  refine (HA.out _ (H1.out.later HBw.out)).mono ?_
  rintro e w1 ⟨g1, rfl, ho1, hb1⟩
  have HP1 := hid (HP.out.later hb1)
  have HR1 := hid (HR.out.later hb1)
  have HO1 := hid (HO.out.later hb1)
  have HB1 := hid (bthen HBw.out hb1)
  have HL1 := hid ho1
  have hg1 := ho1.block g1 rfl
  have hs1 := hb1.size
  rw [hsz] at hs1 hg1 HL1
  clear ho1 hb1 HP HR HO HBw HA hsz
  obtain ⟨p0, p1, p2, _⟩ := HP1.out.three
  obtain ⟨o0, o1, o2, f0, f1, f2⟩ := HO1.out.three
  have HO2 := hid (HO1.out.set 1 (.slice (some ⟨g1, 0, none⟩) x1.length x1.length))
  have HP2 := hid (HP1.out.other (b' := w.heap.size + 1 + 1) (by omega) 1 (.slice (some ⟨g1, 0, none⟩) x1.length x1.length))
  have HR2 := hid (HR1.out.other (b' := w.heap.size + 1 + 1) (by omega) 1 (.slice (some ⟨g1, 0, none⟩) x1.length x1.length))
  have HB2 := hid (below_cell HB1.out (show w.heap.size ≤ w.heap.size + 1 + 1 by omega) 1 (.slice (some ⟨g1, 0, none⟩) x1.length x1.length))
  have HL2 := hid (HL1.out.kept (grown_set w1 (w.heap.size + 1 + 1) 1 (.slice (some ⟨g1, 0, none⟩) x1.length x1.length)) (fun j e => by cases e; omega))
  have H22 := hid (H2.out.later HB2.out)
  obtain ⟨p0', p1', p2', _⟩ := HP2.out.three
  have hs2 : w.heap.size + 3 ≤ (w1.setCell ⟨w.heap.size + 1 + 1, 1, none⟩ (.slice (some ⟨g1, 0, none⟩) x1.length x1.length)).heap.size := by simpa [World.setCell] using hs1
  have hg2 : g1 < (w1.setCell ⟨w.heap.size + 1 + 1, 1, none⟩ (.slice (some ⟨g1, 0, none⟩) x1.length x1.length)).heap.size := by simpa [World.setCell] using hg1.2
  clear HP1 HR1 HO1 HB1 HL1
  go_wp2_with fail
  generalize (w1.setCell ⟨w.heap.size + 1 + 1, 1, none⟩ (.slice (some ⟨g1, 0, none⟩) x1.length x1.length)) = w2 at *
  refine (HB.out _ H22.out).mono ?_
  rintro e w3 ⟨g3, rfl, ho3, hb3⟩
  have HR3 := hid (HR2.out.later hb3)
  have HO3 := hid (HO2.out.later hb3)
  have HB3 := hid (bthen HB2.out hb3)
  have HL3 := hid (HL2.out.later hb3)
  have HM3 := hid (App.Ow.mono ho3 (show w.heap.size + 3 ≤ w2.heap.size by omega))
  have hne : g1 ≠ g3 := by have := (ho3.block g3 rfl).1; omega
  clear ho3 hb3 HP2 HR2 HO2 HB2 HL2 H22 HB p0 p1 p2 o0 o1 o2 f0 f1 f2 p0' p1' p2'
  obtain ⟨o0, o1, o2, f0, f1, f2⟩ := HO3.out.three
  obtain ⟨r0, r1, r2, q0, q1, q2⟩ := HR3.out.three
  have HG := hid (grown_set w3 (w.heap.size + 1 + 1) 2 (.slice (some ⟨g3, 0, none⟩) x2.length x2.length))
  have HG2 := hid (LapS.grown_set3 (w3.setCell ⟨w.heap.size + 1 + 1, 2, none⟩ (.slice (some ⟨g3, 0, none⟩) x2.length x2.length)) (w.heap.size + 1) (.int .i64 s) (.slice (some ⟨g1, 0, none⟩) x1.length x1.length) (.slice (some ⟨g3, 0, none⟩) x2.length x2.length))
  have HF : Hid (OWS (w.heap.size + 1) ((((w3.setCell ⟨w.heap.size + 1 + 1, 2, none⟩ (.slice (some ⟨g3, 0, none⟩) x2.length x2.length)).setCell ⟨w.heap.size + 1, 0, none⟩ (.int .i64 s)).setCell ⟨w.heap.size + 1, 1, none⟩ (.slice (some ⟨g1, 0, none⟩) x1.length x1.length)).setCell ⟨w.heap.size + 1, 2, none⟩ (.slice (some ⟨g3, 0, none⟩) x2.length x2.length)) [(.slice (some ⟨g1, 0, none⟩) x1.length x1.length, x1), (.slice (some ⟨g3, 0, none⟩) x2.length x2.length, x2)]) := by
    refine OWS.two ?_ ?_ (fun g e1 e2 => by simp [Value.ownBlock] at e1 e2; omega)
    · exact App.Ow.mono ((HL3.out.kept HG.out (fun j e => by cases e; omega)).kept HG2.out (fun j e => by cases e; omega)) (by omega)
    · exact App.Ow.mono ((HM3.out.kept HG.out (fun j e => by cases e; omega)).kept HG2.out (fun j e => by cases e; omega)) (by omega)
  have HBf := hid (below_cell (below_cell (below_cell (below_cell HB3.out (show w.heap.size ≤ w.heap.size + 1 + 1 by omega) 2 (.slice (some ⟨g3, 0, none⟩) x2.length x2.length)) (show w.heap.size ≤ w.heap.size + 1 by omega) 0 (.int .i64 s)) (show w.heap.size ≤ w.heap.size + 1 by omega) 1 (.slice (some ⟨g1, 0, none⟩) x1.length x1.length)) (show w.heap.size ≤ w.heap.size + 1 by omega) 2 (.slice (some ⟨g3, 0, none⟩) x2.length x2.length))
  clear HR3 HO3 HB3 HL3 HM3 HG HG2
  go_wp2
  exact bodyPost_ret (v := .agg #[.int .i64 s, .slice (some ⟨g1, 0, none⟩) x1.length x1.length, .slice (some ⟨g3, 0, none⟩) x2.length x2.length]) (by simp [results, Tryd.results33, go_sem, r0, r1, r2]) rfl ⟨_, _, rfl, HF.out, HBf.out⟩
end Go.Proofs.YtgnbailcibhenaaDoor.LapX

namespace Go.Proofs.YtgnbailcibhenaaDoor.LapY
open Go.ChangeShapes Go.WideShapes Go.ChangeAt Go.RowKit Go.Proofs.YtgnbailcibhenaaDoor.Num Go.Proofs.YtgnbailcibhenaaDoor.Sli Go.Proofs.YtgnbailcibhenaaDoor.App Go.Proofs.YtgnbailcibhenaaDoor.Blk Go.Proofs.YtgnbailcibhenaaDoor.IntL Go.Proofs.YtgnbailcibhenaaDoor.OwsG
open Go.Proofs.YtgnbailcibhenaaDoor.ToInt (eqInt64S_calls)

theorem eqLap_calls (s : Int) (v1 v2 u1 u2 : Value) (x1 x2 : List Int) (w : World) (h1 : Sl .i64 w v1 x1) (h2 : Sl .i64 w v2 x2) (k1 : Sl .i64 w u1 x1) (k2 : Sl .i64 w u2 x2) (m1 : x1.length ≤ 1048576) (m2 : x2.length ≤ 1048576) :
    Calls Tryd.prog 26 #[.agg #[.int .i64 s, v1, v2], .agg #[.int .i64 s, u1, u2]] w fun e w' => e = .returned (.bool true) ∧ Below w.heap.size w w' := by
  have hb := bmore (bmore (Below.refl _ w) (.cells #[.int .i64 s, v1, v2] 29)) (.cells #[.int .i64 s, u1, u2] 29)
  have H1 := hid (h1.later hb)
  have H2 := hid (h2.later hb)
  have K1 := hid (k1.later hb)
  have K2 := hid (k2.later hb)
  have HB := hid hb
  obtain ⟨a1, c1, rfl, -⟩ := id h1
  obtain ⟨a2, c2, rfl, -⟩ := id h2
  obtain ⟨a3, c3, rfl, -⟩ := id k1
  obtain ⟨a4, c4, rfl, -⟩ := id k2
  clear h1 h2 k1 k2 hb
  go_enter Tryd.func26, Tryd.ntmps26
  go_wp2_with fail
  refine (eqInt64S_calls _ _ x1 _ H1.out K1.out m1).mono ?_
  rintro e w1 ⟨rfl, hb1⟩
  have H21 := hid (H2.out.later hb1)
  have K21 := hid (K2.out.later hb1)
  have HB1 := hid (bthen HB.out hb1)
  obtain ⟨hP, hQ, _, _⟩ := boxes2 hb1
  obtain ⟨p0, p1, p2, _⟩ := hP.three
  obtain ⟨q0, q1, q2, _⟩ := hQ.three
  clear hb1 hP hQ H1 H2 K1 K2 HB
  go_wp2_with fail
  refine (eqInt64S_calls _ _ x2 _ H21.out K21.out m2).mono ?_
  rintro e w2 ⟨rfl, hb2⟩
  have HB2 := hid (bthen HB1.out hb2)
  clear hb2 H21 K21 HB1
  go_wp2
  go_ret
  exact ⟨rfl, HB2.out⟩
theorem markLap_calls (base : Nat) (s : Int) (v1 v2 : Value) (x1 x2 : List Int) (w : World) (k : Nat) (h : OWS base w [(v1, x1), (v2, x2)]) (m1 : x1.length ≤ 1048576) (m2 : x2.length ≤ 1048576) (hk : k ≤ 5000000) :
    Calls Tryd.prog 28 #[.agg #[.int .i64 s, v1, v2], .int .i64 k] w fun e w' => e = .returned (.int .i64 ((k + x1.length + x2.length : Nat) : Int)) ∧ OWS base w' [(v1, marks k x1.length), (v2, marks (k + x1.length) x2.length)] ∧ On (Ob [v1, v2]) w w' := by
  obtain ⟨a1, c1, rfl, -⟩ := h.h1.sl
  obtain ⟨a2, c2, rfl, -⟩ := h.h2.sl
  have hb0 := bmore (Below.refl _ w) (.cells #[.int .i64 s, .slice a1 x1.length c1, .slice a2 x2.length c2] 29)
  have HR := hid (Blk.new w #[.int .i64 s, .slice a1 x1.length c1, .slice a2 x2.length c2] 29)
  have H0 := hid (h.later hb0)
  have HB0 := hid (On.of_below (S := Ob [.slice a1 x1.length c1, .slice a2 x2.length c2]) hb0)
  have hf1 : Hid (∀ j, (Value.slice a1 x1.length c1).ownBlock = some j → j < w.heap.size) := fun j e => (h.h1.block j e).2
  clear h hb0
  obtain ⟨K, hK⟩ : ∃ K : Nat, k + x1.length = K := ⟨_, rfl⟩
  have HK := hid hK
  rw [hK]
  clear hK
  go_enter Tryd.func28, Tryd.ntmps28
  go_wp2_with fail
  refine (markInt64S_calls base _ x1 _ k H0.out.h1 m1 (by omega)).mono ?_
  rintro e w1 ⟨rfl, ho, hg⟩
  have hr1 := HR.out.kept hg (fun e => by have := hf1.out _ e; omega)
  obtain ⟨_, _, q2, _⟩ := hr1.three
  have H1 := hid (OWS.turn (A := []) H0.out ho hg)
  have HB1 := hid (HB0.out.trans ((On.of_grown hg).more (fun j e => ⟨_, List.mem_cons_self .., e⟩)))
  clear ho hg hr1 HR H0 HB0 hf1
  rw [HK.out]
  go_wp2_with fail
  refine (markInt64S_calls base _ x2 _ K H1.out.h2 m2 (by have := HK.out; omega)).mono ?_
  rintro e w2 ⟨rfl, ho2, hg2⟩
  have H2 := hid (OWS.turn (A := [(.slice a1 x1.length c1, marks k x1.length)]) H1.out ho2 hg2)
  have HB2 := hid (HB1.out.trans ((On.of_grown hg2).more (fun j e => ⟨_, List.mem_cons_of_mem _ (List.mem_cons_self ..), e⟩)))
  clear ho2 hg2 H1 HB1 q2
  go_wp2
  go_ret
  exact ⟨rfl, H2.out, HB2.out⟩
theorem heldLap_calls (s : Int) (v1 v2 : Value) (n1 n2 : Nat) (w : World) (k : Nat) (h1 : Sl .i64 w v1 (marks k n1)) (h2 : Sl .i64 w v2 (marks (k + n1) n2)) (m1 : n1 ≤ 1048576) (m2 : n2 ≤ 1048576) (hk : k ≤ 5000000) :
    Calls Tryd.prog 72 #[.agg #[.int .i64 s, v1, v2], .int .i64 k] w fun e w' => e = .returned (.int .i64 ((k + n1 + n2 : Nat) : Int)) ∧ Below w.heap.size w w' := by
  have hb := bmore (Below.refl _ w) (.cells #[.int .i64 s, v1, v2] 29)
  have H1 := hid (h1.later hb)
  have H2 := hid (h2.later hb)
  have HB := hid hb
  obtain ⟨a1, c1, rfl, -⟩ := id h1
  obtain ⟨a2, c2, rfl, -⟩ := id h2
  clear h1 h2 hb
  rw [marks_len] at *
  rw [marks_len] at *
  go_enter Tryd.func72, Tryd.ntmps72
  go_wp2_with fail
  refine (heldInt64S_calls _ n1 _ k H1.out m1 (by omega)).mono ?_
  rintro e w' ⟨rfl, rfl⟩
  have hp1 : ¬ (((k + n1 : Nat) : Int)) < 0 := by omega
  have hp2 : ¬ (((k + n1 + n2 : Nat) : Int)) < 0 := by omega
  go_wp2_with fail
  refine (heldInt64S_calls _ n2 _ (k + n1) H2.out m2 (by omega)).mono ?_
  rintro e w' ⟨rfl, rfl⟩
  go_wp2
  go_ret
  exact ⟨rfl, HB.out⟩
theorem eqSynth_calls (s : Int) (v1 v2 u1 u2 : Value) (x1 x2 : List Int) (w : World) (h1 : Sl .i64 w v1 x1) (h2 : Sl .i64 w v2 x2) (k1 : Sl .i64 w u1 x1) (k2 : Sl .i64 w u2 x2) (m1 : x1.length ≤ 1048576) (m2 : x2.length ≤ 1048576) :
    Calls Tryd.prog 35 #[.agg #[.int .i64 s, v1, v2], .agg #[.int .i64 s, u1, u2]] w fun e w' => e = .returned (.bool true) ∧ Below w.heap.size w w' := by
  have hb := bmore (bmore (Below.refl _ w) (.cells #[.int .i64 s, v1, v2] 34)) (.cells #[.int .i64 s, u1, u2] 34)
  have H1 := hid (h1.later hb)
  have H2 := hid (h2.later hb)
  have K1 := hid (k1.later hb)
  have K2 := hid (k2.later hb)
  have HB := hid hb
  obtain ⟨a1, c1, rfl, -⟩ := id h1
  obtain ⟨a2, c2, rfl, -⟩ := id h2
  obtain ⟨a3, c3, rfl, -⟩ := id k1
  obtain ⟨a4, c4, rfl, -⟩ := id k2
  clear h1 h2 k1 k2 hb
  go_enter Tryd.func35, Tryd.ntmps35
  go_wp2_with fail
  refine (eqInt64S_calls _ _ x1 _ H1.out K1.out m1).mono ?_
  rintro e w1 ⟨rfl, hb1⟩
  have H21 := hid (H2.out.later hb1)
  have K21 := hid (K2.out.later hb1)
  have HB1 := hid (bthen HB.out hb1)
  obtain ⟨hP, hQ, _, _⟩ := boxes2 hb1
  obtain ⟨p0, p1, p2, _⟩ := hP.three
  obtain ⟨q0, q1, q2, _⟩ := hQ.three
  clear hb1 hP hQ H1 H2 K1 K2 HB
  go_wp2_with fail
  refine (eqInt64S_calls _ _ x2 _ H21.out K21.out m2).mono ?_
  rintro e w2 ⟨rfl, hb2⟩
  have HB2 := hid (bthen HB1.out hb2)
  clear hb2 H21 K21 HB1
  go_wp2
  go_ret
  exact ⟨rfl, HB2.out⟩
theorem markSynth_calls (base : Nat) (s : Int) (v1 v2 : Value) (x1 x2 : List Int) (w : World) (k : Nat) (h : OWS base w [(v1, x1), (v2, x2)]) (m1 : x1.length ≤ 1048576) (m2 : x2.length ≤ 1048576) (hk : k ≤ 5000000) :
    Calls Tryd.prog 36 #[.agg #[.int .i64 s, v1, v2], .int .i64 k] w fun e w' => e = .returned (.int .i64 ((k + x1.length + x2.length : Nat) : Int)) ∧ OWS base w' [(v1, marks k x1.length), (v2, marks (k + x1.length) x2.length)] ∧ On (Ob [v1, v2]) w w' := by
  obtain ⟨a1, c1, rfl, -⟩ := h.h1.sl
  obtain ⟨a2, c2, rfl, -⟩ := h.h2.sl
  have hb0 := bmore (Below.refl _ w) (.cells #[.int .i64 s, .slice a1 x1.length c1, .slice a2 x2.length c2] 34)
  have HR := hid (Blk.new w #[.int .i64 s, .slice a1 x1.length c1, .slice a2 x2.length c2] 34)
  have H0 := hid (h.later hb0)
  have HB0 := hid (On.of_below (S := Ob [.slice a1 x1.length c1, .slice a2 x2.length c2]) hb0)
  have hf1 : Hid (∀ j, (Value.slice a1 x1.length c1).ownBlock = some j → j < w.heap.size) := fun j e => (h.h1.block j e).2
  clear h hb0
  obtain ⟨K, hK⟩ : ∃ K : Nat, k + x1.length = K := ⟨_, rfl⟩
  have HK := hid hK
  rw [hK]
  clear hK
  go_enter Tryd.func36, Tryd.ntmps36
  go_wp2_with fail
  refine (markInt64S_calls base _ x1 _ k H0.out.h1 m1 (by omega)).mono ?_
  rintro e w1 ⟨rfl, ho, hg⟩
  have hr1 := HR.out.kept hg (fun e => by have := hf1.out _ e; omega)
  obtain ⟨_, _, q2, _⟩ := hr1.three
  have H1 := hid (OWS.turn (A := []) H0.out ho hg)
  have HB1 := hid (HB0.out.trans ((On.of_grown hg).more (fun j e => ⟨_, List.mem_cons_self .., e⟩)))
  clear ho hg hr1 HR H0 HB0 hf1
  rw [HK.out]
  go_wp2_with fail
  refine (markInt64S_calls base _ x2 _ K H1.out.h2 m2 (by have := HK.out; omega)).mono ?_
  rintro e w2 ⟨rfl, ho2, hg2⟩
  have H2 := hid (OWS.turn (A := [(.slice a1 x1.length c1, marks k x1.length)]) H1.out ho2 hg2)
  have HB2 := hid (HB1.out.trans ((On.of_grown hg2).more (fun j e => ⟨_, List.mem_cons_of_mem _ (List.mem_cons_self ..), e⟩)))
  clear ho2 hg2 H1 HB1 q2
  go_wp2
  go_ret
  exact ⟨rfl, H2.out, HB2.out⟩
theorem heldSynth_calls (s : Int) (v1 v2 : Value) (n1 n2 : Nat) (w : World) (k : Nat) (h1 : Sl .i64 w v1 (marks k n1)) (h2 : Sl .i64 w v2 (marks (k + n1) n2)) (m1 : n1 ≤ 1048576) (m2 : n2 ≤ 1048576) (hk : k ≤ 5000000) :
    Calls Tryd.prog 74 #[.agg #[.int .i64 s, v1, v2], .int .i64 k] w fun e w' => e = .returned (.int .i64 ((k + n1 + n2 : Nat) : Int)) ∧ Below w.heap.size w w' := by
  have hb := bmore (Below.refl _ w) (.cells #[.int .i64 s, v1, v2] 34)
  have H1 := hid (h1.later hb)
  have H2 := hid (h2.later hb)
  have HB := hid hb
  obtain ⟨a1, c1, rfl, -⟩ := id h1
  obtain ⟨a2, c2, rfl, -⟩ := id h2
  clear h1 h2 hb
  rw [marks_len] at *
  rw [marks_len] at *
  go_enter Tryd.func74, Tryd.ntmps74
  go_wp2_with fail
  refine (heldInt64S_calls _ n1 _ k H1.out m1 (by omega)).mono ?_
  rintro e w' ⟨rfl, rfl⟩
  have hp1 : ¬ (((k + n1 : Nat) : Int)) < 0 := by omega
  have hp2 : ¬ (((k + n1 + n2 : Nat) : Int)) < 0 := by omega
  go_wp2_with fail
  refine (heldInt64S_calls _ n2 _ (k + n1) H2.out m2 (by omega)).mono ?_
  rintro e w' ⟨rfl, rfl⟩
  go_wp2
  go_ret
  exact ⟨rfl, HB.out⟩
end Go.Proofs.YtgnbailcibhenaaDoor.LapY

namespace Go.Proofs.YtgnbailcibhenaaDoor.LapZ
open Go.ChangeShapes Go.WideShapes Go.ChangeAt Go.RowKit Go.Proofs.YtgnbailcibhenaaDoor.Num Go.Proofs.YtgnbailcibhenaaDoor.Sli Go.Proofs.YtgnbailcibhenaaDoor.App Go.Proofs.YtgnbailcibhenaaDoor.Blk Go.Proofs.YtgnbailcibhenaaDoor.IntL Go.Proofs.YtgnbailcibhenaaDoor.OwsG Go.Proofs.YtgnbailcibhenaaDoor.LapY
open Go.Proofs.YtgnbailcibhenaaDoor.ToInt (eqInt64S_calls)

theorem eqFeedResult_calls (c s : Int) (v1 v2 v3 u1 u2 u3 : Value) (x1 x2 x3 : List Int) (w : World) (h1 : Sl .i64 w v1 x1) (h2 : Sl .i64 w v2 x2) (h3 : Sl .i64 w v3 x3) (k1 : Sl .i64 w u1 x1) (k2 : Sl .i64 w u2 x2) (k3 : Sl .i64 w u3 x3) (m1 : x1.length ≤ 1048576) (m2 : x2.length ≤ 1048576) (m3 : x3.length ≤ 1048576) :
    Calls Tryd.prog 25 #[.agg #[.int .i64 c, .int .i64 s, v1, v2, v3], .agg #[.int .i64 c, .int .i64 s, u1, u2, u3]] w fun e w' => e = .returned (.bool true) ∧ Below w.heap.size w w' := by
  have hb := bmore (bmore (Below.refl _ w) (.cells #[.int .i64 c, .int .i64 s, v1, v2, v3] 41)) (.cells #[.int .i64 c, .int .i64 s, u1, u2, u3] 41)
  have H1 := hid (h1.later hb)
  have H2 := hid (h2.later hb)
  have H3 := hid (h3.later hb)
  have K1 := hid (k1.later hb)
  have K2 := hid (k2.later hb)
  have K3 := hid (k3.later hb)
  have HB := hid hb
  obtain ⟨a1, c1, rfl, -⟩ := id h1
  obtain ⟨a2, c2, rfl, -⟩ := id h2
  obtain ⟨a3, c3, rfl, -⟩ := id k1
  obtain ⟨a4, c4, rfl, -⟩ := id k2
  obtain ⟨a5, c5, rfl, -⟩ := id h3
  obtain ⟨a6, c6, rfl, -⟩ := id k3
  clear h1 h2 h3 k1 k2 k3 hb
  go_enter Tryd.func25, Tryd.ntmps25
  go_wp2_with fail
  refine (eqLap_calls s _ _ _ _ x1 x2 _ H1.out H2.out K1.out K2.out m1 m2).mono ?_
  rintro e w1 ⟨rfl, hb1⟩
  have HB1 := hid (bthen HB.out hb1)
  have H31 := hid (H3.out.later hb1)
  have K31 := hid (K3.out.later hb1)
  obtain ⟨hP, hQ, _, _⟩ := boxes2 hb1
  obtain ⟨p0, p1, p2, p3, p4, _⟩ := hP.five
  obtain ⟨q0, q1, q2, q3, q4, _⟩ := hQ.five
  clear hb1 HB hP hQ H1 H2 H3 K1 K2 K3
  go_wp2_with fail
  refine (eqInt64S_calls _ _ x3 _ H31.out K31.out m3).mono ?_
  rintro e w2 ⟨rfl, hb2⟩
  have HB2 := hid (bthen HB1.out hb2)
  clear hb2 HB1 H31 K31
  go_wp2
  go_ret
  exact ⟨rfl, HB2.out⟩
set_option maxHeartbeats 1000000 in
theorem markFeedResult_calls (base : Nat) (c s : Int) (v1 v2 v3 : Value) (x1 x2 x3 : List Int) (w : World) (k : Nat) (h : OWS base w [(v1, x1), (v2, x2), (v3, x3)]) (m1 : x1.length ≤ 1048576) (m2 : x2.length ≤ 1048576) (m3 : x3.length ≤ 1048576) (hk : k ≤ 1000000) :
    Calls Tryd.prog 30 #[.agg #[.int .i64 c, .int .i64 s, v1, v2, v3], .int .i64 k] w fun e w' => e = .returned (.int .i64 ((k + x1.length + x2.length + x3.length : Nat) : Int)) ∧ OWS base w' [(v1, marks k x1.length), (v2, marks (k + x1.length) x2.length), (v3, marks (k + x1.length + x2.length) x3.length)] ∧ On (Ob [v1, v2, v3]) w w' := by
  obtain ⟨a1, c1, rfl, -⟩ := h.h1.sl
  obtain ⟨a2, c2, rfl, -⟩ := h.h2.sl
  obtain ⟨a3, c3, rfl, -⟩ := h.h3.sl
  have hb0 := bmore (Below.refl _ w) (.cells #[.int .i64 c, .int .i64 s, .slice a1 x1.length c1, .slice a2 x2.length c2, .slice a3 x3.length c3] 41)
  have HR := hid (Blk.new w #[.int .i64 c, .int .i64 s, .slice a1 x1.length c1, .slice a2 x2.length c2, .slice a3 x3.length c3] 41)
  have H0 := hid (h.later hb0)
  have HB0 := hid (On.of_below (S := Ob [.slice a1 x1.length c1, .slice a2 x2.length c2, .slice a3 x3.length c3]) hb0)
  have hfar : Hid (∀ j, Ob [.slice a1 x1.length c1, .slice a2 x2.length c2] j → j ≠ w.heap.size) := fun j e => by
    obtain ⟨v, hv, e⟩ := e
    rcases List.mem_cons.1 hv with rfl | hv
    · have := (h.h1.block j e).2; omega
    · rcases List.mem_cons.1 hv with rfl | hv
      · have := (h.h2.block j e).2; omega
      · cases hv
  have hn3 : Hid (∀ j, (Value.slice a3 x3.length c3).ownBlock = some j → ¬ Ob [.slice a1 x1.length c1, .slice a2 x2.length c2] j) := fun j e ⟨v, hv, e2⟩ => by
    have hp := h.ne
    rcases List.mem_cons.1 hv with rfl | hv
    · exact (List.pairwise_cons.1 hp).1 _ (List.mem_cons_of_mem _ (List.mem_cons_self ..)) j e2 e
    · rcases List.mem_cons.1 hv with rfl | hv
      · exact (List.pairwise_cons.1 (List.pairwise_cons.1 hp).2).1 _ (List.mem_cons_self ..) j e2 e
      · cases hv
  have HP2 := hid (h.sub (qs := [(.slice a1 x1.length c1, x1), (.slice a2 x2.length c2, x2)]) (.cons_cons _ (.cons_cons _ (List.nil_sublist _))))
  have HN : Hid (∀ (W : World) (y1 y2 y3 : List Int), OWS base W [(.slice a1 x1.length c1, y1), (.slice a2 x2.length c2, y2)] → OwI base W (.slice a3 x3.length c3) y3 → OWS base W [(.slice a1 x1.length c1, y1), (.slice a2 x2.length c2, y2), (.slice a3 x3.length c3, y3)]) := fun W y1 y2 y3 q1 q2 => OWS.three q1 q2 (fun g e e2 => hn3.out g e2 ⟨_, List.mem_cons_self .., e⟩) (fun g e e2 => hn3.out g e2 ⟨_, List.mem_cons_of_mem _ (List.mem_cons_self ..), e⟩)
  have HP20 := hid (HP2.out.later hb0)
  clear h hb0
  obtain ⟨K, hK⟩ : ∃ K : Nat, k + x1.length + x2.length = K := ⟨_, rfl⟩
  have HKk := hid hK
  rw [hK]
  clear hK
  go_enter Tryd.func30, Tryd.ntmps30
  go_wp2_with fail
  refine (markLap_calls base s _ _ x1 x2 _ k HP20.out m1 m2 (by omega)).mono ?_
  rintro e w1 ⟨rfl, ho, hg⟩
  have hr1 := hg.blk HR.out (fun e => hfar.out _ e rfl)
  obtain ⟨_, _, _, _, q4, _⟩ := hr1.five
  have H31 := hid (hg.ow H0.out.h3 hn3.out)
  have H1 := hid (HN.out _ _ _ _ ho H31.out)
  have HB1 := hid (HB0.out.trans (hg.more (fun _ e => e.sub (.cons_cons _ (.cons_cons _ (List.nil_sublist _))))))
  rw [HKk.out]
  clear ho hg hr1 HR H0 HB0 hfar hn3 HP2 HP20 H31
  go_wp2_with fail
  refine (markInt64S_calls base _ x3 _ K H1.out.h3 m3 (by have := HKk.out; omega)).mono ?_
  rintro e w2 ⟨rfl, ho2, hg2⟩
  have H2 := hid (OWS.turn (A := [(.slice a1 x1.length c1, marks k x1.length), (.slice a2 x2.length c2, marks (k + x1.length) x2.length)]) H1.out ho2 hg2)
  have HB2 := hid (HB1.out.trans ((On.of_grown hg2).more (fun j e => ⟨_, List.mem_cons_of_mem _ (List.mem_cons_of_mem _ (List.mem_cons_self ..)), e⟩)))
  clear ho2 hg2 H1 HB1 q4
  go_wp2
  go_ret
  exact ⟨rfl, H2.out, HB2.out⟩
theorem heldFeedResult_calls (c s : Int) (v1 v2 v3 : Value) (n1 n2 n3 : Nat) (w : World) (k : Nat) (h1 : Sl .i64 w v1 (marks k n1)) (h2 : Sl .i64 w v2 (marks (k + n1) n2)) (h3 : Sl .i64 w v3 (marks (k + n1 + n2) n3)) (m1 : n1 ≤ 1048576) (m2 : n2 ≤ 1048576) (m3 : n3 ≤ 1048576) (hk : k ≤ 1000000) :
    Calls Tryd.prog 31 #[.agg #[.int .i64 c, .int .i64 s, v1, v2, v3], .int .i64 k] w fun e w' => e = .returned (.int .i64 ((k + n1 + n2 + n3 : Nat) : Int)) ∧ Below w.heap.size w w' := by
  have hb := bmore (Below.refl _ w) (.cells #[.int .i64 c, .int .i64 s, v1, v2, v3] 41)
  have HR := hid (Blk.new w #[.int .i64 c, .int .i64 s, v1, v2, v3] 41)
  have H1 := hid (h1.later hb)
  have H2 := hid (h2.later hb)
  have H3 := hid (h3.later hb)
  have HB := hid hb
  obtain ⟨a1, c1, rfl, -⟩ := id h1
  obtain ⟨a2, c2, rfl, -⟩ := id h2
  obtain ⟨a3, c3, rfl, -⟩ := id h3
  clear h1 h2 h3 hb
  go_enter Tryd.func31, Tryd.ntmps31
  go_wp2_with fail
  refine (heldLap_calls s _ _ n1 n2 _ k H1.out H2.out m1 m2 (by omega)).mono ?_
  rintro e w1 ⟨rfl, hb1⟩
  have HB1 := hid (bthen HB.out hb1)
  have H31 := hid (H3.out.later hb1)
  obtain ⟨_, _, _, _, q4, _⟩ := (HR.out.later hb1).five
  obtain ⟨K, hK⟩ : ∃ K : Nat, k + n1 + n2 = K := ⟨_, rfl⟩
  have HKk := hid hK
  rw [hK] at H31 ⊢
  rw [hK] at q4
  have hp : ¬ (K : Int) < 0 := by omega
  clear hb1 HB hK H1 H2 H3 HR
  go_wp2_with fail
  refine (heldInt64S_calls _ n3 _ K H31.out m3 (by have := HKk.out; omega)).mono ?_
  rintro e w' ⟨rfl, rfl⟩
  obtain ⟨M, hM⟩ : ∃ M : Nat, K + n3 = M := ⟨_, rfl⟩
  have HM := hid hM
  rw [hM]
  have hp2 : ¬ (M : Int) < 0 := by omega
  clear hM
  go_wp2
  go_ret
  exact ⟨by rw [HKk.out, HM.out]; rfl, HB1.out⟩
theorem eqPlayResult_calls (c s : Int) (v1 v2 v3 u1 u2 u3 : Value) (x1 x2 x3 : List Int) (w : World) (h1 : Sl .i64 w v1 x1) (h2 : Sl .i64 w v2 x2) (h3 : Sl .i64 w v3 x3) (k1 : Sl .i64 w u1 x1) (k2 : Sl .i64 w u2 x2) (k3 : Sl .i64 w u3 x3) (m1 : x1.length ≤ 1048576) (m2 : x2.length ≤ 1048576) (m3 : x3.length ≤ 1048576) :
    Calls Tryd.prog 34 #[.agg #[.int .i64 c, .int .i64 s, v1, v2, v3], .agg #[.int .i64 c, .int .i64 s, u1, u2, u3]] w fun e w' => e = .returned (.bool true) ∧ Below w.heap.size w w' := by
  have hb := bmore (bmore (Below.refl _ w) (.cells #[.int .i64 c, .int .i64 s, v1, v2, v3] 48)) (.cells #[.int .i64 c, .int .i64 s, u1, u2, u3] 48)
  have H1 := hid (h1.later hb)
  have H2 := hid (h2.later hb)
  have H3 := hid (h3.later hb)
  have K1 := hid (k1.later hb)
  have K2 := hid (k2.later hb)
  have K3 := hid (k3.later hb)
  have HB := hid hb
  obtain ⟨a1, c1, rfl, -⟩ := id h1
  obtain ⟨a2, c2, rfl, -⟩ := id h2
  obtain ⟨a3, c3, rfl, -⟩ := id k1
  obtain ⟨a4, c4, rfl, -⟩ := id k2
  obtain ⟨a5, c5, rfl, -⟩ := id h3
  obtain ⟨a6, c6, rfl, -⟩ := id k3
  clear h1 h2 h3 k1 k2 k3 hb
  go_enter Tryd.func34, Tryd.ntmps34
  go_wp2_with fail
  refine (eqSynth_calls s _ _ _ _ x1 x2 _ H1.out H2.out K1.out K2.out m1 m2).mono ?_
  rintro e w1 ⟨rfl, hb1⟩
  have HB1 := hid (bthen HB.out hb1)
  have H31 := hid (H3.out.later hb1)
  have K31 := hid (K3.out.later hb1)
  obtain ⟨hP, hQ, _, _⟩ := boxes2 hb1
  obtain ⟨p0, p1, p2, p3, p4, _⟩ := hP.five
  obtain ⟨q0, q1, q2, q3, q4, _⟩ := hQ.five
  clear hb1 HB hP hQ H1 H2 H3 K1 K2 K3
  go_wp2_with fail
  refine (eqInt64S_calls _ _ x3 _ H31.out K31.out m3).mono ?_
  rintro e w2 ⟨rfl, hb2⟩
  have HB2 := hid (bthen HB1.out hb2)
  clear hb2 HB1 H31 K31
  go_wp2
  go_ret
  exact ⟨rfl, HB2.out⟩
set_option maxHeartbeats 1000000 in
theorem markPlayResult_calls (base : Nat) (c s : Int) (v1 v2 v3 : Value) (x1 x2 x3 : List Int) (w : World) (k : Nat) (h : OWS base w [(v1, x1), (v2, x2), (v3, x3)]) (m1 : x1.length ≤ 1048576) (m2 : x2.length ≤ 1048576) (m3 : x3.length ≤ 1048576) (hk : k ≤ 1000000) :
    Calls Tryd.prog 37 #[.agg #[.int .i64 c, .int .i64 s, v1, v2, v3], .int .i64 k] w fun e w' => e = .returned (.int .i64 ((k + x1.length + x2.length + x3.length : Nat) : Int)) ∧ OWS base w' [(v1, marks k x1.length), (v2, marks (k + x1.length) x2.length), (v3, marks (k + x1.length + x2.length) x3.length)] ∧ On (Ob [v1, v2, v3]) w w' := by
  obtain ⟨a1, c1, rfl, -⟩ := h.h1.sl
  obtain ⟨a2, c2, rfl, -⟩ := h.h2.sl
  obtain ⟨a3, c3, rfl, -⟩ := h.h3.sl
  have hb0 := bmore (Below.refl _ w) (.cells #[.int .i64 c, .int .i64 s, .slice a1 x1.length c1, .slice a2 x2.length c2, .slice a3 x3.length c3] 48)
  have HR := hid (Blk.new w #[.int .i64 c, .int .i64 s, .slice a1 x1.length c1, .slice a2 x2.length c2, .slice a3 x3.length c3] 48)
  have H0 := hid (h.later hb0)
  have HB0 := hid (On.of_below (S := Ob [.slice a1 x1.length c1, .slice a2 x2.length c2, .slice a3 x3.length c3]) hb0)
  have hfar : Hid (∀ j, Ob [.slice a1 x1.length c1, .slice a2 x2.length c2] j → j ≠ w.heap.size) := fun j e => by
    obtain ⟨v, hv, e⟩ := e
    rcases List.mem_cons.1 hv with rfl | hv
    · have := (h.h1.block j e).2; omega
    · rcases List.mem_cons.1 hv with rfl | hv
      · have := (h.h2.block j e).2; omega
      · cases hv
  have hn3 : Hid (∀ j, (Value.slice a3 x3.length c3).ownBlock = some j → ¬ Ob [.slice a1 x1.length c1, .slice a2 x2.length c2] j) := fun j e ⟨v, hv, e2⟩ => by
    have hp := h.ne
    rcases List.mem_cons.1 hv with rfl | hv
    · exact (List.pairwise_cons.1 hp).1 _ (List.mem_cons_of_mem _ (List.mem_cons_self ..)) j e2 e
    · rcases List.mem_cons.1 hv with rfl | hv
      · exact (List.pairwise_cons.1 (List.pairwise_cons.1 hp).2).1 _ (List.mem_cons_self ..) j e2 e
      · cases hv
  have HP2 := hid (h.sub (qs := [(.slice a1 x1.length c1, x1), (.slice a2 x2.length c2, x2)]) (.cons_cons _ (.cons_cons _ (List.nil_sublist _))))
  have HN : Hid (∀ (W : World) (y1 y2 y3 : List Int), OWS base W [(.slice a1 x1.length c1, y1), (.slice a2 x2.length c2, y2)] → OwI base W (.slice a3 x3.length c3) y3 → OWS base W [(.slice a1 x1.length c1, y1), (.slice a2 x2.length c2, y2), (.slice a3 x3.length c3, y3)]) := fun W y1 y2 y3 q1 q2 => OWS.three q1 q2 (fun g e e2 => hn3.out g e2 ⟨_, List.mem_cons_self .., e⟩) (fun g e e2 => hn3.out g e2 ⟨_, List.mem_cons_of_mem _ (List.mem_cons_self ..), e⟩)
  have HP20 := hid (HP2.out.later hb0)
  clear h hb0
  obtain ⟨K, hK⟩ : ∃ K : Nat, k + x1.length + x2.length = K := ⟨_, rfl⟩
  have HKk := hid hK
  rw [hK]
  clear hK
  go_enter Tryd.func37, Tryd.ntmps37
  go_wp2_with fail
  refine (markSynth_calls base s _ _ x1 x2 _ k HP20.out m1 m2 (by omega)).mono ?_
  rintro e w1 ⟨rfl, ho, hg⟩
  have hr1 := hg.blk HR.out (fun e => hfar.out _ e rfl)
  obtain ⟨_, _, _, _, q4, _⟩ := hr1.five
  have H31 := hid (hg.ow H0.out.h3 hn3.out)
  have H1 := hid (HN.out _ _ _ _ ho H31.out)
  have HB1 := hid (HB0.out.trans (hg.more (fun _ e => e.sub (.cons_cons _ (.cons_cons _ (List.nil_sublist _))))))
  rw [HKk.out]
  clear ho hg hr1 HR H0 HB0 hfar hn3 HP2 HP20 H31
  go_wp2_with fail
  refine (markInt64S_calls base _ x3 _ K H1.out.h3 m3 (by have := HKk.out; omega)).mono ?_
  rintro e w2 ⟨rfl, ho2, hg2⟩
  have H2 := hid (OWS.turn (A := [(.slice a1 x1.length c1, marks k x1.length), (.slice a2 x2.length c2, marks (k + x1.length) x2.length)]) H1.out ho2 hg2)
  have HB2 := hid (HB1.out.trans ((On.of_grown hg2).more (fun j e => ⟨_, List.mem_cons_of_mem _ (List.mem_cons_of_mem _ (List.mem_cons_self ..)), e⟩)))
  clear ho2 hg2 H1 HB1 q4
  go_wp2
  go_ret
  exact ⟨rfl, H2.out, HB2.out⟩
theorem heldPlayResult_calls (c s : Int) (v1 v2 v3 : Value) (n1 n2 n3 : Nat) (w : World) (k : Nat) (h1 : Sl .i64 w v1 (marks k n1)) (h2 : Sl .i64 w v2 (marks (k + n1) n2)) (h3 : Sl .i64 w v3 (marks (k + n1 + n2) n3)) (m1 : n1 ≤ 1048576) (m2 : n2 ≤ 1048576) (m3 : n3 ≤ 1048576) (hk : k ≤ 1000000) :
    Calls Tryd.prog 38 #[.agg #[.int .i64 c, .int .i64 s, v1, v2, v3], .int .i64 k] w fun e w' => e = .returned (.int .i64 ((k + n1 + n2 + n3 : Nat) : Int)) ∧ Below w.heap.size w w' := by
  have hb := bmore (Below.refl _ w) (.cells #[.int .i64 c, .int .i64 s, v1, v2, v3] 48)
  have HR := hid (Blk.new w #[.int .i64 c, .int .i64 s, v1, v2, v3] 48)
  have H1 := hid (h1.later hb)
  have H2 := hid (h2.later hb)
  have H3 := hid (h3.later hb)
  have HB := hid hb
  obtain ⟨a1, c1, rfl, -⟩ := id h1
  obtain ⟨a2, c2, rfl, -⟩ := id h2
  obtain ⟨a3, c3, rfl, -⟩ := id h3
  clear h1 h2 h3 hb
  go_enter Tryd.func38, Tryd.ntmps38
  go_wp2_with fail
  refine (heldSynth_calls s _ _ n1 n2 _ k H1.out H2.out m1 m2 (by omega)).mono ?_
  rintro e w1 ⟨rfl, hb1⟩
  have HB1 := hid (bthen HB.out hb1)
  have H31 := hid (H3.out.later hb1)
  obtain ⟨_, _, _, _, q4, _⟩ := (HR.out.later hb1).five
  obtain ⟨K, hK⟩ : ∃ K : Nat, k + n1 + n2 = K := ⟨_, rfl⟩
  have HKk := hid hK
  rw [hK] at H31 ⊢
  rw [hK] at q4
  have hp : ¬ (K : Int) < 0 := by omega
  clear hb1 HB hK H1 H2 H3 HR
  go_wp2_with fail
  refine (heldInt64S_calls _ n3 _ K H31.out m3 (by have := HKk.out; omega)).mono ?_
  rintro e w' ⟨rfl, rfl⟩
  obtain ⟨M, hM⟩ : ∃ M : Nat, K + n3 = M := ⟨_, rfl⟩
  have HM := hid hM
  rw [hM]
  have hp2 : ¬ (M : Int) < 0 := by omega
  clear hM
  go_wp2
  go_ret
  exact ⟨by rw [HKk.out, HM.out]; rfl, HB1.out⟩
end Go.Proofs.YtgnbailcibhenaaDoor.LapZ

namespace Go.Proofs.YtgnbailcibhenaaDoor.ExLf
open Go.ChangeShapes Go.WideShapes Go.ChangeAt Go.RowKit Go.Proofs.YtgnbailcibhenaaDoor.Num Go.Proofs.YtgnbailcibhenaaDoor.Sli Go.Proofs.YtgnbailcibhenaaDoor.App Go.Proofs.YtgnbailcibhenaaDoor.Blk Go.Proofs.YtgnbailcibhenaaDoor.LapM Go.Proofs.YtgnbailcibhenaaDoor.IntL Go.Proofs.YtgnbailcibhenaaDoor.OwsG Go.Proofs.YtgnbailcibhenaaDoor.LapS Go.Proofs.YtgnbailcibhenaaDoor.LapX Go.Proofs.YtgnbailcibhenaaDoor.LapY Go.Proofs.YtgnbailcibhenaaDoor.LapZ

/-- A lap or a synth in its block, and what its lists hold. -/
structure PL (w : World) (b : Nat) (s : Int) (v1 v2 : Value) (x1 x2 : List Int) (t : TypeId) (W : World) : Prop where
  p : Blk W b #[.int .i64 s, v1, v2] t
  s1 : Sl .i64 W v1 x1
  s2 : Sl .i64 W v2 x2
  l : Below w.heap.size w W
section
variable {w W W' : World} {b : Nat} {s : Int} {v1 v2 : Value} {x1 x2 : List Int} {t : TypeId}
theorem PL.later (h : PL w b s v1 v2 x1 x2 t W) (hb : Below W.heap.size W W') : PL w b s v1 v2 x1 x2 t W' := ⟨h.p.later hb, h.s1.later hb, h.s2.later hb, bthen h.l hb⟩
theorem PL.alloc (h : PL w b s v1 v2 x1 x2 t W) (o : Obj) : PL w b s v1 v2 x1 x2 t (W.alloc o) := h.later (bmore (Below.refl _ _) o)
theorem PL.drew (h : PL w b s v1 v2 x1 x2 t W) : PL w b s v1 v2 x1 x2 t W.drew := ⟨h.p, h.s1, h.s2, h.l.drew⟩
theorem PL.new (s : Int) (t : TypeId) (h1 : Sl .i64 w v1 x1) (h2 : Sl .i64 w v2 x2) : PL w w.heap.size s v1 v2 x1 x2 t (w.alloc (.cells #[.int .i64 s, v1, v2] t)) :=
  let hb := bmore (Below.refl _ w) (.cells #[.int .i64 s, v1, v2] t)
  ⟨Blk.new _ _ _, h1.later hb, h2.later hb, hb⟩
/-- A copy that was just boxed. -/
theorem PL.boxed {w1 : World} (s : Int) (t : TypeId) (h1 : Sl .i64 w1 v1 x1) (h2 : Sl .i64 w1 v2 x2) (hl : Below w.heap.size w w1) : PL w w1.heap.size s v1 v2 x1 x2 t (w1.alloc (.cells #[.int .i64 s, v1, v2] t)) :=
  let hb := bmore (Below.refl _ w1) (.cells #[.int .i64 s, v1, v2] t)
  ⟨Blk.new _ _ _, h1.later hb, h2.later hb, bthen hl hb⟩
end
end Go.Proofs.YtgnbailcibhenaaDoor.ExLf
