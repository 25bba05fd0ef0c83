/- The program's laps and synths: half of a size, noughts, faults, new ones, and whether two are the same. Conditions: lists of at most 1048576 numbers. -/
import Derived.Test.YtbakmphopgkpmaaDoorBkI
import Derived.Test.YtbakmphopgkpmaaDoorLapS
namespace Go.Proofs.YtbakmphopgkpmaaDoor.LaI
open Go.ChangeShapes Go.WideShapes Go.ChangeAt Go.RowKit Go.Proofs.YtbakmphopgkpmaaDoor.Num Go.Proofs.YtbakmphopgkpmaaDoor.Sli Go.Proofs.YtbakmphopgkpmaaDoor.App Go.Proofs.YtbakmphopgkpmaaDoor.Samp Go.Proofs.YtbakmphopgkpmaaDoor.SampF Go.Proofs.YtbakmphopgkpmaaDoor.Blk Go.Proofs.YtbakmphopgkpmaaDoor.TurM Go.Proofs.YtbakmphopgkpmaaDoor.HalM Go.Proofs.YtbakmphopgkpmaaDoor.LapM Go.Proofs.YtbakmphopgkpmaaDoor.LapN Go.Proofs.YtbakmphopgkpmaaDoor.IntL Go.Proofs.YtbakmphopgkpmaaDoor.IntA Go.Proofs.YtbakmphopgkpmaaDoor.LapS Go.Proofs.YtbakmphopgkpmaaDoor.BkI

theorem middle_calls (s : Int) (w : World) (hz : szF s = 0) :
    Calls Tryd.prog 114 #[.int .i64 s] w fun e w' => e = .returned (.int .i64 (hN s : Int)) ∧ w' = w := by
  obtain ⟨_, e1, e2, e3, e4, e5⟩ := sz_nat hz
  have hm0 : s.tdiv 2 = (hN s : Int) := by rw [Int.tdiv_eq_ediv_of_nonneg (by omega)]; exact e5
  have hbd : 0 ≤ s ∧ s ≤ 16 := by omega
  clear e1 e2 e5 hz
  generalize hN s = m at *
  go_enter Tryd.func114, Tryd.ntmps114
  go_wp2
  go_ret
  exact ⟨rfl, rfl⟩
theorem noughts_calls (s : Int) (w : World) (hz : szF s = 0) :
    Calls Tryd.prog 84 #[.int .i64 s] w fun e w' => e = .returned (.slice (some ⟨w.heap.size, 0, none⟩) (hN s : Nat) (hN s : Nat)) ∧ OwI w.heap.size w' (.slice (some ⟨w.heap.size, 0, none⟩) (hN s : Nat) (hN s : Nat)) (List.replicate (hN s) 0) ∧ Below w.heap.size w w' := by
  obtain ⟨i0, hi, hz0, hz1, hz2⟩ := info_parts infoI
  have HM := hid (fun W => middle_calls s W hz)
  have hm8 : hN s ≤ 8 := by obtain ⟨_, _, _, _, h, _⟩ := sz_nat hz; exact h
  clear hz
  generalize hN s = m at *
  go_enter Tryd.func84, Tryd.ntmps84
  go_wp2_with fail
  refine (HM.out _).mono ?_
  rintro e w' ⟨rfl, rfl⟩
  go_wp2_with (at_make; refine wpList_make_full _ rfl _ _ 30 rfl w'.heap.size 2 i0 (.int .i64 0) 1 Tryd.underlying30 hi hz0 hz1 .i64 .i64 _ _ m rfl rfl rfl rfl ?c1 ?c2 ?c3 ?_)
  case c1 => rw [hz2]; omega
  case c2 => unfold maxLen; omega
  case c3 => exact Nat.le_refl _
  intro w1 hown hgrow
  rw [made_zero] at hown
  have HO : Hid (OwI w'.heap.size w1 (.slice (some ⟨w'.heap.size, 0, none⟩) m m) (List.replicate m 0)) := by
    show World.ownsRow _ _ _ _ _ (List.replicate m (0 : Int)).length _
    rw [List.length_replicate]; exact hown
  have HB := hid ((Below.refl _ _).grown hgrow (Nat.le_refl _) (fun k h => by cases h) : Below w'.heap.size w' w1)
  clear hgrow hown
  go_wp2
  go_ret
  exact ⟨rfl, HO.out, HB.out⟩
/-- The codes ahead of the bounds. -/
def lgC (s : Int) (a b : List Int) : Int := if szF s = 0 then (if a.length = hN s ∧ b.length = hN s then 0 else 2) else 3
theorem lengthFault_calls (s : Int) (v1 v2 : Value) (a b : List Int) (w : World) (h1 : Sl .i64 w v1 a) (h2 : Sl .i64 w v2 b) :
    Calls Tryd.prog 126 #[.int .i64 s, v1, v2] w fun e w' => e = .returned (.int .i64 (lgC s a b)) ∧ w' = w := by
  have HS := hid (implSizeFault_calls s)
  obtain ⟨a1, c1, rfl, _⟩ := h1
  obtain ⟨a2, c2, rfl, _⟩ := h2
  rcases sz_03 s with hz | hz
  · have HM := hid (fun W => middle_calls s W hz)
    rw [hz] at HS
    have hm8 : hN s ≤ 8 := by obtain ⟨_, _, _, _, h, _⟩ := sz_nat hz; exact h
    by_cases hl1 : a.length = hN s
    · by_cases hl2 : b.length = hN s
      · have HE : Hid (lgC s a b = 0) := by show _ = _; unfold lgC; rw [if_pos hz, if_pos ⟨hl1, hl2⟩]
        rw [hl1, hl2]
        clear hl1 hl2 hz
        generalize hN s = m at *
        go_enter Tryd.func126, Tryd.ntmps126
        go_wp2_with (first | (go_at_call 83; refine (HS.out _).mono ?_; rintro e w' ⟨rfl, rfl⟩) | (go_at_call 114; refine (HM.out _).mono ?_; rintro e w' ⟨rfl, rfl⟩))
        go_ret
        exact ⟨by rw [HE.out]; rfl, rfl⟩
      · have HE : Hid (lgC s a b = 2) := by show _ = _; unfold lgC; rw [if_pos hz, if_neg (fun h => hl2 h.2)]
        have hb : ((b.length : Int) != (hN s : Int)) = true := by simp; omega
        rw [hl1]
        clear hl1 hl2 hz
        generalize hN s = m at *
        go_enter Tryd.func126, Tryd.ntmps126
        go_wp2_with (first | (go_at_call 83; refine (HS.out _).mono ?_; rintro e w' ⟨rfl, rfl⟩) | (go_at_call 114; refine (HM.out _).mono ?_; rintro e w' ⟨rfl, rfl⟩))
        go_ret
        exact ⟨by rw [HE.out]; rfl, rfl⟩
    · have HE : Hid (lgC s a b = 2) := by show _ = _; unfold lgC; rw [if_pos hz, if_neg (fun h => hl1 h.1)]
      have hb : ((a.length : Int) != (hN s : Int)) = true := by simp; omega
      clear hl1 hz
      generalize hN s = m at *
      go_enter Tryd.func126, Tryd.ntmps126
      go_wp2_with (first | (go_at_call 83; refine (HS.out _).mono ?_; rintro e w' ⟨rfl, rfl⟩) | (go_at_call 114; refine (HM.out _).mono ?_; rintro e w' ⟨rfl, rfl⟩))
      go_ret
      exact ⟨by rw [HE.out]; rfl, rfl⟩
  · have HE : Hid (lgC s a b = 3) := by show _ = _; unfold lgC; rw [if_neg (by rw [hz]; decide)]
    rw [hz] at HS
    clear hz
    go_enter Tryd.func126, Tryd.ntmps126
    go_wp2_with (go_at_call 83; refine (HS.out _).mono ?_; rintro e w' ⟨rfl, rfl⟩)
    go_ret
    exact ⟨by rw [HE.out]; rfl, rfl⟩
theorem synthOf_calls (s : Int) (a1 : Option Addr) (n1 c1 : Nat) (a2 : Option Addr) (n2 c2 : Nat) (w : World) :
    Calls Tryd.prog 87 #[.agg #[.int .i64 s, .slice a1 n1 c1, .slice a2 n2 c2]] w fun e w' => e = .returned (.agg #[.int .i64 s, .slice a1 n1 c1, .slice a2 n2 c2]) ∧ Below w.heap.size w w' := by
  have HB := hid (bmore (bmore (Below.refl _ w) (.cells #[.int .i64 s, .slice a1 n1 c1, .slice a2 n2 c2] 43)) (.cells #[.int .i64 s, .slice a1 n1 c1, .slice a2 n2 c2] 102))
  go_enter Tryd.func87, Tryd.ntmps87
  go_wp2
  exact bodyPost_ret (v := .agg #[.int .i64 s, .slice a1 n1 c1, .slice a2 n2 c2]) (by simp [results, Tryd.results87, go_sem]) rfl ⟨rfl, HB.out⟩
theorem synthTold_calls (s : Int) (a1 : Option Addr) (n1 c1 : Nat) (a2 : Option Addr) (n2 c2 : Nat) (w : World) :
    Calls Tryd.prog 85 #[.agg #[.int .i64 s, .slice a1 n1 c1, .slice a2 n2 c2]] w fun e w' => e = .returned (.agg #[.int .i64 s, .slice a1 n1 c1, .slice a2 n2 c2]) ∧ Below w.heap.size w w' := by
  have HB := hid (bmore (bmore (Below.refl _ w) (.cells #[.int .i64 s, .slice a1 n1 c1, .slice a2 n2 c2] 102)) (.cells #[.int .i64 s, .slice a1 n1 c1, .slice a2 n2 c2] 43))
  go_enter Tryd.func85, Tryd.ntmps85
  go_wp2
  exact bodyPost_ret (v := .agg #[.int .i64 s, .slice a1 n1 c1, .slice a2 n2 c2]) (by simp [results, Tryd.results85, go_sem]) rfl ⟨rfl, HB.out⟩
set_option maxHeartbeats 2000000 in
theorem synthFault_calls (s : Int) (vh vr : Value) (half rest : List Int) (w : World) (h1 : Sl .i64 w vh half) (h2 : Sl .i64 w vr rest) (m1 : half.length ≤ 1048576) (m2 : rest.length ≤ 1048576) :
    Calls Tryd.prog 115 #[.agg #[.int .i64 s, vh, vr]] w fun e w' => e = .returned (.int .i64 (syC s half rest)) ∧ Below w.heap.size w w' := by
  have HG := hid (fun W (q1 : Sl .i64 W vh half) (q2 : Sl .i64 W vr rest) => lengthFault_calls s vh vr half rest W q1 q2)
  have HA := hid (fun W (q : Sl .i64 W vh half) => areWithin_calls vh half 1073741824 W q m1 (by omega) (by omega))
  have HX : Hid (rest.length ≤ 16 → ∀ W, Sl .i64 W vr rest → Calls Tryd.prog 73 #[vr, .int .i64 (-268435456), .int .i64 268435456] W fun e w' => e = .returned (.bool (rest.all tlB)) ∧ w' = W) := fun _ W q => areWithin_calls vr rest 268435456 W q m2 (by omega) (by omega)
  have hb := bmore (Below.refl _ w) (.cells #[.int .i64 s, vh, vr] 102)
  have H1 := hid (h1.later hb)
  have H2 := hid (h2.later hb)
  have HB := hid hb
  have HP := hid (Blk.new w #[.int .i64 s, vh, vr] 102)
  clear hb
  by_cases hg : lgC s half rest = 0
  · have hcc : szF s = 0 ∧ half.length = hN s ∧ rest.length = hN s := by
      unfold lgC at hg
      split at hg
      · rename_i h0
        split at hg
        · rename_i h; exact ⟨h0, h.1, h.2⟩
        · cases hg
      · cases hg
    obtain ⟨hz, hl1, hl2⟩ := hcc
    have hm8 : hN s ≤ 8 := by obtain ⟨_, _, _, _, h, _⟩ := sz_nat hz; exact h
    rw [hg] at HG
    cases ha1 : half.all hdB
    · have HE : Hid (syC s half rest = 3) := by show _ = _; unfold syC; rw [if_pos hz, if_pos ⟨hl1, hl2⟩, if_neg (by rw [ha1]; simp)]
      rw [show half.all (inB (-1073741824) 1073741824) = false from ha1] at HA
      obtain ⟨a1, c1, rfl, _⟩ := h1
      obtain ⟨a2, c2, rfl, _⟩ := h2
      obtain ⟨p0, p1, p2, _⟩ := HP.out.three
      clear hg hz hl1 hl2 ha1 HX
      go_enter Tryd.func115, Tryd.ntmps115
      go_wp2_with fail
      refine (HG.out _ H1.out H2.out).mono ?_
      rintro e w' ⟨rfl, rfl⟩
      go_wp2_with fail
      refine (HA.out _ H1.out).mono ?_
      rintro e w' ⟨rfl, rfl⟩
      go_wp2
      go_ret
      exact ⟨by rw [HE.out]; rfl, HB.out⟩
    · rw [show half.all (inB (-1073741824) 1073741824) = true from ha1] at HA
      have HE : Hid (syC s half rest = if rest.all tlB = true then 0 else 3) := by
        show _ = _
        unfold syC
        rw [if_pos hz, if_pos ⟨hl1, hl2⟩]
        cases hb : rest.all tlB
        · rw [if_neg (by simp), if_neg (by simp)]
        · rw [if_pos ⟨ha1, rfl⟩, if_pos rfl]
      have HX := hid (HX.out (by omega))
      obtain ⟨a1, c1, rfl, _⟩ := h1
      obtain ⟨a2, c2, rfl, _⟩ := h2
      obtain ⟨p0, p1, p2, _⟩ := HP.out.three
      clear hg hz hl1 hl2 ha1
      cases hb : rest.all tlB
      · rw [hb] at HE
        rw [hb] at HX
        clear hb
        go_enter Tryd.func115, Tryd.ntmps115
        go_wp2_with fail
        refine (HG.out _ H1.out H2.out).mono ?_
        rintro e w' ⟨rfl, rfl⟩
        go_wp2_with fail
        refine (HA.out _ H1.out).mono ?_
        rintro e w' ⟨rfl, rfl⟩
        go_wp2_with fail
        refine (HX.out _ H2.out).mono ?_
        rintro e w3 ⟨rfl, rfl⟩
        have HBx := HB
        go_wp2
        go_ret
        exact ⟨by rw [HE.out]; rfl, HBx.out⟩
      · rw [hb] at HE
        rw [hb] at HX
        clear hb
        go_enter Tryd.func115, Tryd.ntmps115
        go_wp2_with fail
        refine (HG.out _ H1.out H2.out).mono ?_
        rintro e w' ⟨rfl, rfl⟩
        go_wp2_with fail
        refine (HA.out _ H1.out).mono ?_
        rintro e w' ⟨rfl, rfl⟩
        go_wp2_with fail
        refine (HX.out _ H2.out).mono ?_
        rintro e w3 ⟨rfl, rfl⟩
        have HBx := HB
        go_wp2
        go_ret
        exact ⟨by rw [HE.out]; rfl, HBx.out⟩
  · have HE : Hid (syC s half rest = lgC s half rest) := by
      show _ = _
      unfold syC lgC
      unfold lgC at hg
      split at hg
      · rename_i h0
        rw [if_pos h0, if_pos h0]
        split at hg
        · exact absurd rfl hg
        · rename_i h; rw [if_neg h, if_neg h]
      · rename_i h0; rw [if_neg h0, if_neg h0]
    have hgb : (lgC s half rest != 0) = true := by simpa using hg
    clear hg HA HX
    generalize lgC s half rest = c at *
    obtain ⟨a1, c1, rfl, _⟩ := h1
    obtain ⟨a2, c2, rfl, _⟩ := h2
    obtain ⟨p0, p1, p2, _⟩ := HP.out.three
    go_enter Tryd.func115, Tryd.ntmps115
    go_wp2_with fail
    refine (HG.out _ H1.out H2.out).mono ?_
    rintro e w' ⟨rfl, rfl⟩
    go_wp2
    go_ret
    exact ⟨by rw [HE.out]; rfl, HB.out⟩
theorem implSynthFault_calls (s : Int) (vh vr : Value) (half rest : List Int) (w : World) (h1 : Sl .i64 w vh half) (h2 : Sl .i64 w vr rest) (m1 : half.length ≤ 1048576) (m2 : rest.length ≤ 1048576) :
    Calls Tryd.prog 86 #[.agg #[.int .i64 s, vh, vr]] w fun e w' => e = .returned (.int .i64 (syC s half rest)) ∧ Below w.heap.size w w' := by
  have HF := hid (fun W (q1 : Sl .i64 W vh half) (q2 : Sl .i64 W vr rest) => synthFault_calls s vh vr half rest W q1 q2 m1 m2)
  have hb := bmore (Below.refl _ w) (.cells #[.int .i64 s, vh, vr] 43)
  have H1 := hid (h1.later hb)
  have H2 := hid (h2.later hb)
  have HB := hid hb
  have HP := hid (Blk.new w #[.int .i64 s, vh, vr] 43)
  generalize syC s half rest = c at *
  obtain ⟨a1, c1, rfl, _⟩ := h1
  obtain ⟨a2, c2, rfl, _⟩ := h2
  obtain ⟨p0, p1, p2, _⟩ := HP.out.three
  clear hb
  go_enter Tryd.func86, Tryd.ntmps86
  go_wp2_with fail
  refine (synthOf_calls _ _ _ _ _ _ _ _).mono ?_
  rintro e w1 ⟨rfl, hb1⟩
  have HB1 := hid (bthen HB.out hb1)
  have H11 := hid (H1.out.later hb1)
  have H21 := hid (H2.out.later hb1)
  clear hb1
  go_wp2_with fail
  refine (HF.out _ H11.out H21.out).mono ?_
  rintro e w2 ⟨rfl, hb2⟩
  have HB2 := hid (bthen HB1.out hb2)
  clear hb2
  go_wp2
  go_ret
  exact ⟨rfl, HB2.out⟩
end Go.Proofs.YtbakmphopgkpmaaDoor.LaI
