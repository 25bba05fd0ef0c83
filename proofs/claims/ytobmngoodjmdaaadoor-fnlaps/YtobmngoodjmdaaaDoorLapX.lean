/- The laws' own helpers over laps and synths: their size, copies of them. -/
import Derived.Test.YtobmngoodjmdaaaDoorOwsG
import Derived.Test.YtobmngoodjmdaaaDoorLapS
namespace Go.Proofs.YtobmngoodjmdaaaDoor.LapX
open Go.ChangeShapes Go.WideShapes Go.ChangeAt Go.RowKit Go.Proofs.YtobmngoodjmdaaaDoor.Num Go.Proofs.YtobmngoodjmdaaaDoor.Sli Go.Proofs.YtobmngoodjmdaaaDoor.App Go.Proofs.YtobmngoodjmdaaaDoor.Blk Go.Proofs.YtobmngoodjmdaaaDoor.IntL Go.Proofs.YtobmngoodjmdaaaDoor.OwsG

/-- What is left when n more are counted. -/
def szV (n : Nat) (left : Int) : Int := if (n : Int) ≤ left then left - n else -1
theorem szV_yes {n : Nat} {left : Int} (h : (n : Int) ≤ left) : szV n left = left - n := if_pos h
theorem szV_no {n : Nat} {left : Int} (h : ¬ (n : Int) ≤ left) : szV n left = -1 := if_neg h
theorem szI_calls (a : Option Addr) (n cap : Nat) (left : Int) (w : World) (hn : n ≤ maxLen) (h0 : 0 ≤ left) (h1 : left ≤ 1048576) :
    Calls Tryd.prog 70 #[.slice a n cap, .int .i64 left] w fun e w' => e = .returned (.int .i64 (szV n left)) ∧ w' = w := by
  have hn' : (n : Int) ≤ 9223372036854775807 := by unfold maxLen at hn; omega
  by_cases h : (n : Int) ≤ left
  · rw [szV_yes h]
    have h' : 0 ≤ left - (n : Int) := by omega
    go_enter Tryd.func70, Tryd.ntmps70
    go_wp2
    go_ret
    exact ⟨rfl, rfl⟩
  · rw [szV_no h]
    have h' : left - (n : Int) < 0 := by omega
    go_enter Tryd.func70, Tryd.ntmps70
    go_wp2
    go_ret
    exact ⟨rfl, rfl⟩
theorem szLap_calls (s left : Int) (a1 a2 : Option Addr) (n1 n2 c1 c2 : Nat) (w : World) (h1 : n1 ≤ maxLen) (h2 : n2 ≤ maxLen) (h3 : 0 ≤ left) (h4 : left ≤ 1048576) :
    Calls Tryd.prog 22 #[.agg #[.int .i64 s, .slice a1 n1 c1, .slice a2 n2 c2], .int .i64 left] w fun e w' => e = .returned (.int .i64 (szV (n1 + n2) left)) ∧ Below w.heap.size w w' := by
  have Hb := hid (bmore (Below.refl _ w) (.cells #[.int .i64 s, .slice a1 n1 c1, .slice a2 n2 c2] 57))
  by_cases e1 : (n1 : Int) ≤ left
  · have H1 := hid (fun W => szI_calls a1 n1 c1 left W h1 h3 h4)
    rw [szV_yes e1] at H1
    have H2 := hid (fun W => szI_calls a2 n2 c2 (left - n1) W h2 (by omega) (by omega))
    by_cases e2 : (n2 : Int) ≤ left - n1
    · rw [szV_yes e2] at H2
      rw [szV_yes (by omega), show left - ((n1 + n2 : Nat) : Int) = left - n1 - n2 by omega]
      have p1 : 0 ≤ left - (n1 : Int) := by omega
      have p2 : 0 ≤ left - (n1 : Int) - n2 := by omega
      clear e1 e2 h1 h2
      generalize left - (n1 : Int) - n2 = z2 at *
      generalize left - (n1 : Int) = z1 at *
      go_enter Tryd.func22, Tryd.ntmps22
      go_wp2_with fail
      refine (H1.out _).mono ?_
      rintro e w' ⟨rfl, rfl⟩
      go_wp2_with fail
      refine (H2.out _).mono ?_
      rintro e w' ⟨rfl, rfl⟩
      go_wp2
      go_ret
      exact ⟨rfl, Hb.out⟩
    · rw [szV_no e2] at H2
      rw [szV_no (by omega)]
      have p1 : 0 ≤ left - (n1 : Int) := by omega
      clear e1 e2 h1 h2
      generalize left - (n1 : Int) = z1 at *
      go_enter Tryd.func22, Tryd.ntmps22
      go_wp2_with fail
      refine (H1.out _).mono ?_
      rintro e w' ⟨rfl, rfl⟩
      go_wp2_with fail
      refine (H2.out _).mono ?_
      rintro e w' ⟨rfl, rfl⟩
      go_wp2
      go_ret
      exact ⟨rfl, Hb.out⟩
  · have H1 := hid (fun W => szI_calls a1 n1 c1 left W h1 h3 h4)
    rw [szV_no e1] at H1
    rw [szV_no (by omega)]
    clear e1 h1 h2
    go_enter Tryd.func22, Tryd.ntmps22
    go_wp2_with fail
    refine (H1.out _).mono ?_
    rintro e w' ⟨rfl, rfl⟩
    go_wp2
    go_ret
    exact ⟨rfl, Hb.out⟩
set_option maxHeartbeats 1000000 in
theorem toLap_calls (s : Int) (v1 v2 : Value) (x1 x2 : List Int) (w : World) (h1 : Sl .i64 w v1 x1) (h2 : Sl .i64 w v2 x2) (m1 : x1.length ≤ 1048576) (m2 : x2.length ≤ 1048576) :
    Calls Tryd.prog 23 #[.agg #[.int .i64 s, v1, v2]] w fun e w' => ∃ g1 g2, e = .returned (.agg #[.int .i64 s, .slice (some ⟨g1, 0, none⟩) x1.length x1.length, .slice (some ⟨g2, 0, none⟩) x2.length x2.length]) ∧
      OWS (w.heap.size + 1) w' [(.slice (some ⟨g1, 0, none⟩) x1.length x1.length, x1), (.slice (some ⟨g2, 0, none⟩) x2.length x2.length, x2)] ∧ Below w.heap.size w w' := by
  have HA := hid (fun W (q : Sl .i64 W v1 x1) => toInt64S_calls v1 x1 W q m1)
  have HB := hid (fun W (q : Sl .i64 W v2 x2) => toInt64S_calls v2 x2 W q m2)
  have H1 := hid h1
  have H2 := hid h2
  obtain ⟨a1, c1, rfl, -⟩ := id h1
  obtain ⟨a2, c2, rfl, -⟩ := id h2
  clear h1 h2
  obtain ⟨hp, hr, ho, hb, _⟩ := boxes3 (w := w) (A := #[.int .i64 s, .slice a1 x1.length c1, .slice a2 x2.length c2]) (B := #[.int .i64 0, .slice none 0 0, .slice none 0 0]) (C := #[.int .i64 s, .slice none 0 0, .slice none 0 0]) (t := 57) (u := 29) (s := 29) (Below.refl _ _)
  have HP := hid hp
  have HR := hid hr
  have HO := hid ho
  have HBw := hid hb
  clear hp hr ho hb
  go_enter Tryd.func23, Tryd.ntmps23
  go_wp2_with fail
  have hsz : ((((w.alloc (.cells #[.int .i64 s, .slice a1 x1.length c1, .slice a2 x2.length c2] 57)).alloc (.cells #[.int .i64 0, .slice none 0 0, .slice none 0 0] 29)).alloc (.cells #[.int .i64 s, .slice none 0 0, .slice none 0 0] 29))).heap.size = w.heap.size + 3 := by simp
  refine (HA.out _ (H1.out.later HBw.out)).mono ?_
  rintro e w1 ⟨g1, rfl, ho1, hb1⟩
  have HP1 := hid (HP.out.later hb1)
  have HR1 := hid (HR.out.later hb1)
  have HO1 := hid (HO.out.later hb1)
  have HB1 := hid (bthen HBw.out hb1)
  have HL1 := hid ho1
  have hg1 := ho1.block g1 rfl
  have hs1 := hb1.size
  rw [hsz] at hs1 hg1 HL1
  clear ho1 hb1 HP HR HO HBw HA hsz
  obtain ⟨p0, p1, p2, _⟩ := HP1.out.three
  obtain ⟨o0, o1, o2, f0, f1, f2⟩ := HO1.out.three
  have HO2 := hid (HO1.out.set 1 (.slice (some ⟨g1, 0, none⟩) x1.length x1.length))
  have HP2 := hid (HP1.out.other (b' := w.heap.size + 1 + 1) (by omega) 1 (.slice (some ⟨g1, 0, none⟩) x1.length x1.length))
  have HR2 := hid (HR1.out.other (b' := w.heap.size + 1 + 1) (by omega) 1 (.slice (some ⟨g1, 0, none⟩) x1.length x1.length))
  have HB2 := hid (below_cell HB1.out (show w.heap.size ≤ w.heap.size + 1 + 1 by omega) 1 (.slice (some ⟨g1, 0, none⟩) x1.length x1.length))
  have HL2 := hid (HL1.out.kept (grown_set w1 (w.heap.size + 1 + 1) 1 (.slice (some ⟨g1, 0, none⟩) x1.length x1.length)) (fun j e => by cases e; omega))
  have H22 := hid (H2.out.later HB2.out)
  obtain ⟨p0', p1', p2', _⟩ := HP2.out.three
  have hs2 : w.heap.size + 3 ≤ (w1.setCell ⟨w.heap.size + 1 + 1, 1, none⟩ (.slice (some ⟨g1, 0, none⟩) x1.length x1.length)).heap.size := by simpa [World.setCell] using hs1
  have hg2 : g1 < (w1.setCell ⟨w.heap.size + 1 + 1, 1, none⟩ (.slice (some ⟨g1, 0, none⟩) x1.length x1.length)).heap.size := by simpa [World.setCell] using hg1.2
  clear HP1 HR1 HO1 HB1 HL1
  go_wp2_with fail
  generalize (w1.setCell ⟨w.heap.size + 1 + 1, 1, none⟩ (.slice (some ⟨g1, 0, none⟩) x1.length x1.length)) = w2 at *
  refine (HB.out _ H22.out).mono ?_
  rintro e w3 ⟨g3, rfl, ho3, hb3⟩
  have HR3 := hid (HR2.out.later hb3)
  have HO3 := hid (HO2.out.later hb3)
  have HB3 := hid (bthen HB2.out hb3)
  have HL3 := hid (HL2.out.later hb3)
  have HM3 := hid (App.Ow.mono ho3 (show w.heap.size + 3 ≤ w2.heap.size by omega))
  have hne : g1 ≠ g3 := by have := (ho3.block g3 rfl).1; omega
  clear ho3 hb3 HP2 HR2 HO2 HB2 HL2 H22 HB p0 p1 p2 o0 o1 o2 f0 f1 f2 p0' p1' p2'
  obtain ⟨o0, o1, o2, f0, f1, f2⟩ := HO3.out.three
  obtain ⟨r0, r1, r2, q0, q1, q2⟩ := HR3.out.three
  have HG := hid (grown_set w3 (w.heap.size + 1 + 1) 2 (.slice (some ⟨g3, 0, none⟩) x2.length x2.length))
  have HG2 := hid (LapS.grown_set3 (w3.setCell ⟨w.heap.size + 1 + 1, 2, none⟩ (.slice (some ⟨g3, 0, none⟩) x2.length x2.length)) (w.heap.size + 1) (.int .i64 s) (.slice (some ⟨g1, 0, none⟩) x1.length x1.length) (.slice (some ⟨g3, 0, none⟩) x2.length x2.length))
  have HF : Hid (OWS (w.heap.size + 1) ((((w3.setCell ⟨w.heap.size + 1 + 1, 2, none⟩ (.slice (some ⟨g3, 0, none⟩) x2.length x2.length)).setCell ⟨w.heap.size + 1, 0, none⟩ (.int .i64 s)).setCell ⟨w.heap.size + 1, 1, none⟩ (.slice (some ⟨g1, 0, none⟩) x1.length x1.length)).setCell ⟨w.heap.size + 1, 2, none⟩ (.slice (some ⟨g3, 0, none⟩) x2.length x2.length)) [(.slice (some ⟨g1, 0, none⟩) x1.length x1.length, x1), (.slice (some ⟨g3, 0, none⟩) x2.length x2.length, x2)]) := by
    refine OWS.two ?_ ?_ (fun g e1 e2 => by simp [Value.ownBlock] at e1 e2; omega)
    · exact App.Ow.mono ((HL3.out.kept HG.out (fun j e => by cases e; omega)).kept HG2.out (fun j e => by cases e; omega)) (by omega)
    · exact App.Ow.mono ((HM3.out.kept HG.out (fun j e => by cases e; omega)).kept HG2.out (fun j e => by cases e; omega)) (by omega)
  have HBf := hid (below_cell (below_cell (below_cell (below_cell HB3.out (show w.heap.size ≤ w.heap.size + 1 + 1 by omega) 2 (.slice (some ⟨g3, 0, none⟩) x2.length x2.length)) (show w.heap.size ≤ w.heap.size + 1 by omega) 0 (.int .i64 s)) (show w.heap.size ≤ w.heap.size + 1 by omega) 1 (.slice (some ⟨g1, 0, none⟩) x1.length x1.length)) (show w.heap.size ≤ w.heap.size + 1 by omega) 2 (.slice (some ⟨g3, 0, none⟩) x2.length x2.length))
  clear HR3 HO3 HB3 HL3 HM3 HG HG2
  go_wp2
  exact bodyPost_ret (v := .agg #[.int .i64 s, .slice (some ⟨g1, 0, none⟩) x1.length x1.length, .slice (some ⟨g3, 0, none⟩) x2.length x2.length]) (by simp [results, Tryd.results23, go_sem, r0, r1, r2]) rfl ⟨_, _, rfl, HF.out, HBf.out⟩
theorem szSynth_calls (s left : Int) (a1 a2 : Option Addr) (n1 n2 c1 c2 : Nat) (w : World) (h1 : n1 ≤ maxLen) (h2 : n2 ≤ maxLen) (h3 : 0 ≤ left) (h4 : left ≤ 1048576) :
    Calls Tryd.prog 32 #[.agg #[.int .i64 s, .slice a1 n1 c1, .slice a2 n2 c2], .int .i64 left] w fun e w' => e = .returned (.int .i64 (szV (n1 + n2) left)) ∧ Below w.heap.size w w' := by
  have Hb := hid (bmore (Below.refl _ w) (.cells #[.int .i64 s, .slice a1 n1 c1, .slice a2 n2 c2] 66))
  by_cases e1 : (n1 : Int) ≤ left
  · have H1 := hid (fun W => szI_calls a1 n1 c1 left W h1 h3 h4)
    rw [szV_yes e1] at H1
    have H2 := hid (fun W => szI_calls a2 n2 c2 (left - n1) W h2 (by omega) (by omega))
    by_cases e2 : (n2 : Int) ≤ left - n1
    · rw [szV_yes e2] at H2
      rw [szV_yes (by omega), show left - ((n1 + n2 : Nat) : Int) = left - n1 - n2 by omega]
      have p1 : 0 ≤ left - (n1 : Int) := by omega
      have p2 : 0 ≤ left - (n1 : Int) - n2 := by omega
      clear e1 e2 h1 h2
      generalize left - (n1 : Int) - n2 = z2 at *
      generalize left - (n1 : Int) = z1 at *
      go_enter Tryd.func32, Tryd.ntmps32
      go_wp2_with fail
      refine (H1.out _).mono ?_
      rintro e w' ⟨rfl, rfl⟩
      go_wp2_with fail
      refine (H2.out _).mono ?_
      rintro e w' ⟨rfl, rfl⟩
      go_wp2
      go_ret
      exact ⟨rfl, Hb.out⟩
    · rw [szV_no e2] at H2
      rw [szV_no (by omega)]
      have p1 : 0 ≤ left - (n1 : Int) := by omega
      clear e1 e2 h1 h2
      generalize left - (n1 : Int) = z1 at *
      go_enter Tryd.func32, Tryd.ntmps32
      go_wp2_with fail
      refine (H1.out _).mono ?_
      rintro e w' ⟨rfl, rfl⟩
      go_wp2_with fail
      refine (H2.out _).mono ?_
      rintro e w' ⟨rfl, rfl⟩
      go_wp2
      go_ret
      exact ⟨rfl, Hb.out⟩
  · have H1 := hid (fun W => szI_calls a1 n1 c1 left W h1 h3 h4)
    rw [szV_no e1] at H1
    rw [szV_no (by omega)]
    clear e1 h1 h2
    go_enter Tryd.func32, Tryd.ntmps32
    go_wp2_with fail
    refine (H1.out _).mono ?_
    rintro e w' ⟨rfl, rfl⟩
    go_wp2
    go_ret
    exact ⟨rfl, Hb.out⟩
set_option maxHeartbeats 1000000 in
theorem toSynth_calls (s : Int) (v1 v2 : Value) (x1 x2 : List Int) (w : World) (h1 : Sl .i64 w v1 x1) (h2 : Sl .i64 w v2 x2) (m1 : x1.length ≤ 1048576) (m2 : x2.length ≤ 1048576) :
    Calls Tryd.prog 33 #[.agg #[.int .i64 s, v1, v2]] w fun e w' => ∃ g1 g2, e = .returned (.agg #[.int .i64 s, .slice (some ⟨g1, 0, none⟩) x1.length x1.length, .slice (some ⟨g2, 0, none⟩) x2.length x2.length]) ∧
      OWS (w.heap.size + 1) w' [(.slice (some ⟨g1, 0, none⟩) x1.length x1.length, x1), (.slice (some ⟨g2, 0, none⟩) x2.length x2.length, x2)] ∧ Below w.heap.size w w' := by
  have HA := hid (fun W (q : Sl .i64 W v1 x1) => toInt64S_calls v1 x1 W q m1)
  have HB := hid (fun W (q : Sl .i64 W v2 x2) => toInt64S_calls v2 x2 W q m2)
  have H1 := hid h1
  have H2 := hid h2
  obtain ⟨a1, c1, rfl, -⟩ := id h1
  obtain ⟨a2, c2, rfl, -⟩ := id h2
  clear h1 h2
  obtain ⟨hp, hr, ho, hb, _⟩ := boxes3 (w := w) (A := #[.int .i64 s, .slice a1 x1.length c1, .slice a2 x2.length c2]) (B := #[.int .i64 0, .slice none 0 0, .slice none 0 0]) (C := #[.int .i64 s, .slice none 0 0, .slice none 0 0]) (t := 66) (u := 34) (s := 34) (Below.refl _ _)
  have HP := hid hp
  have HR := hid hr
  have HO := hid ho
  have HBw := hid hb
  clear hp hr ho hb
  go_enter Tryd.func33, Tryd.ntmps33
  go_wp2_with fail
  have hsz : ((((w.alloc (.cells #[.int .i64 s, .slice a1 x1.length c1, .slice a2 x2.length c2] 66)).alloc (.cells #[.int .i64 0, .slice none 0 0, .slice none 0 0] 34)).alloc (.cells #[.int .i64 s, .slice none 0 0, .slice none 0 0] 34))).heap.size = w.heap.size + 3 := by simp
  refine (HA.out _ (H1.out.later HBw.out)).mono ?_
  rintro e w1 ⟨g1, rfl, ho1, hb1⟩
  have HP1 := hid (HP.out.later hb1)
  have HR1 := hid (HR.out.later hb1)
  have HO1 := hid (HO.out.later hb1)
  have HB1 := hid (bthen HBw.out hb1)
  have HL1 := hid ho1
  have hg1 := ho1.block g1 rfl
  have hs1 := hb1.size
  rw [hsz] at hs1 hg1 HL1
  clear ho1 hb1 HP HR HO HBw HA hsz
  obtain ⟨p0, p1, p2, _⟩ := HP1.out.three
  obtain ⟨o0, o1, o2, f0, f1, f2⟩ := HO1.out.three
  have HO2 := hid (HO1.out.set 1 (.slice (some ⟨g1, 0, none⟩) x1.length x1.length))
  have HP2 := hid (HP1.out.other (b' := w.heap.size + 1 + 1) (by omega) 1 (.slice (some ⟨g1, 0, none⟩) x1.length x1.length))
  have HR2 := hid (HR1.out.other (b' := w.heap.size + 1 + 1) (by omega) 1 (.slice (some ⟨g1, 0, none⟩) x1.length x1.length))
  have HB2 := hid (below_cell HB1.out (show w.heap.size ≤ w.heap.size + 1 + 1 by omega) 1 (.slice (some ⟨g1, 0, none⟩) x1.length x1.length))
  have HL2 := hid (HL1.out.kept (grown_set w1 (w.heap.size + 1 + 1) 1 (.slice (some ⟨g1, 0, none⟩) x1.length x1.length)) (fun j e => by cases e; omega))
  have H22 := hid (H2.out.later HB2.out)
  obtain ⟨p0', p1', p2', _⟩ := HP2.out.three
  have hs2 : w.heap.size + 3 ≤ (w1.setCell ⟨w.heap.size + 1 + 1, 1, none⟩ (.slice (some ⟨g1, 0, none⟩) x1.length x1.length)).heap.size := by simpa [World.setCell] using hs1
  have hg2 : g1 < (w1.setCell ⟨w.heap.size + 1 + 1, 1, none⟩ (.slice (some ⟨g1, 0, none⟩) x1.length x1.length)).heap.size := by simpa [World.setCell] using hg1.2
  clear HP1 HR1 HO1 HB1 HL1
  go_wp2_with fail
  generalize (w1.setCell ⟨w.heap.size + 1 + 1, 1, none⟩ (.slice (some ⟨g1, 0, none⟩) x1.length x1.length)) = w2 at *
  refine (HB.out _ H22.out).mono ?_
  rintro e w3 ⟨g3, rfl, ho3, hb3⟩
  have HR3 := hid (HR2.out.later hb3)
  have HO3 := hid (HO2.out.later hb3)
  have HB3 := hid (bthen HB2.out hb3)
  have HL3 := hid (HL2.out.later hb3)
  have HM3 := hid (App.Ow.mono ho3 (show w.heap.size + 3 ≤ w2.heap.size by omega))
  have hne : g1 ≠ g3 := by have := (ho3.block g3 rfl).1; omega
  clear ho3 hb3 HP2 HR2 HO2 HB2 HL2 H22 HB p0 p1 p2 o0 o1 o2 f0 f1 f2 p0' p1' p2'
  obtain ⟨o0, o1, o2, f0, f1, f2⟩ := HO3.out.three
  obtain ⟨r0, r1, r2, q0, q1, q2⟩ := HR3.out.three
  have HG := hid (grown_set w3 (w.heap.size + 1 + 1) 2 (.slice (some ⟨g3, 0, none⟩) x2.length x2.length))
  have HG2 := hid (LapS.grown_set3 (w3.setCell ⟨w.heap.size + 1 + 1, 2, none⟩ (.slice (some ⟨g3, 0, none⟩) x2.length x2.length)) (w.heap.size + 1) (.int .i64 s) (.slice (some ⟨g1, 0, none⟩) x1.length x1.length) (.slice (some ⟨g3, 0, none⟩) x2.length x2.length))
  have HF : Hid (OWS (w.heap.size + 1) ((((w3.setCell ⟨w.heap.size + 1 + 1, 2, none⟩ (.slice (some ⟨g3, 0, none⟩) x2.length x2.length)).setCell ⟨w.heap.size + 1, 0, none⟩ (.int .i64 s)).setCell ⟨w.heap.size + 1, 1, none⟩ (.slice (some ⟨g1, 0, none⟩) x1.length x1.length)).setCell ⟨w.heap.size + 1, 2, none⟩ (.slice (some ⟨g3, 0, none⟩) x2.length x2.length)) [(.slice (some ⟨g1, 0, none⟩) x1.length x1.length, x1), (.slice (some ⟨g3, 0, none⟩) x2.length x2.length, x2)]) := by
    refine OWS.two ?_ ?_ (fun g e1 e2 => by simp [Value.ownBlock] at e1 e2; omega)
    · exact App.Ow.mono ((HL3.out.kept HG.out (fun j e => by cases e; omega)).kept HG2.out (fun j e => by cases e; omega)) (by omega)
    · exact App.Ow.mono ((HM3.out.kept HG.out (fun j e => by cases e; omega)).kept HG2.out (fun j e => by cases e; omega)) (by omega)
  have HBf := hid (below_cell (below_cell (below_cell (below_cell HB3.out (show w.heap.size ≤ w.heap.size + 1 + 1 by omega) 2 (.slice (some ⟨g3, 0, none⟩) x2.length x2.length)) (show w.heap.size ≤ w.heap.size + 1 by omega) 0 (.int .i64 s)) (show w.heap.size ≤ w.heap.size + 1 by omega) 1 (.slice (some ⟨g1, 0, none⟩) x1.length x1.length)) (show w.heap.size ≤ w.heap.size + 1 by omega) 2 (.slice (some ⟨g3, 0, none⟩) x2.length x2.length))
  clear HR3 HO3 HB3 HL3 HM3 HG HG2
  go_wp2
  exact bodyPost_ret (v := .agg #[.int .i64 s, .slice (some ⟨g1, 0, none⟩) x1.length x1.length, .slice (some ⟨g3, 0, none⟩) x2.length x2.length]) (by simp [results, Tryd.results33, go_sem, r0, r1, r2]) rfl ⟨_, _, rfl, HF.out, HBf.out⟩
end Go.Proofs.YtobmngoodjmdaaaDoor.LapX
