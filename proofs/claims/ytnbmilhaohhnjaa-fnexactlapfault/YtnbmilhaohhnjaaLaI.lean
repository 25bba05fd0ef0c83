/- The program's laps and synths: half of a size, noughts, faults, new ones, and whether two are the same. Conditions: lists of at most 1048576 numbers. -/
import Derived.Test.YtnbmilhaohhnjaaBkI
import Derived.Test.YtnbmilhaohhnjaaLapS
namespace Go.Proofs.Ytnbmilhaohhnjaa.LaI
open Go.ChangeShapes Go.WideShapes Go.ChangeAt Go.RowKit Go.Proofs.Ytnbmilhaohhnjaa.Num Go.Proofs.Ytnbmilhaohhnjaa.Sli Go.Proofs.Ytnbmilhaohhnjaa.App Go.Proofs.Ytnbmilhaohhnjaa.Samp Go.Proofs.Ytnbmilhaohhnjaa.SampF Go.Proofs.Ytnbmilhaohhnjaa.Blk Go.Proofs.Ytnbmilhaohhnjaa.TurM Go.Proofs.Ytnbmilhaohhnjaa.HalM Go.Proofs.Ytnbmilhaohhnjaa.LapM Go.Proofs.Ytnbmilhaohhnjaa.LapN Go.Proofs.Ytnbmilhaohhnjaa.IntL Go.Proofs.Ytnbmilhaohhnjaa.IntA Go.Proofs.Ytnbmilhaohhnjaa.LapS Go.Proofs.Ytnbmilhaohhnjaa.BkI

theorem middle_calls (s : Int) (w : World) (hz : szF s = 0) :
    Calls Try.prog 37 #[.int .i64 s] w fun e w' => e = .returned (.int .i64 (hN s : Int)) ∧ w' = w := by
  obtain ⟨_, e1, e2, e3, e4, e5⟩ := sz_nat hz
  have hm0 : s.tdiv 2 = (hN s : Int) := by rw [Int.tdiv_eq_ediv_of_nonneg (by omega)]; exact e5
  have hbd : 0 ≤ s ∧ s ≤ 16 := by omega
  clear e1 e2 e5 hz
  generalize hN s = m at *
  go_enter Try.func37, Try.ntmps37
  go_wp2
  go_ret
  exact ⟨rfl, rfl⟩
/-- The codes ahead of the bounds. -/
def lgC (s : Int) (a b : List Int) : Int := if szF s = 0 then (if a.length = hN s ∧ b.length = hN s then 0 else 2) else 3
theorem lengthFault_calls (s : Int) (v1 v2 : Value) (a b : List Int) (w : World) (h1 : Sl .i64 w v1 a) (h2 : Sl .i64 w v2 b) :
    Calls Try.prog 32 #[.int .i64 s, v1, v2] w fun e w' => e = .returned (.int .i64 (lgC s a b)) ∧ w' = w := by
  have HS := hid (implSizeFault_calls s)
  obtain ⟨a1, c1, rfl, _⟩ := h1
  obtain ⟨a2, c2, rfl, _⟩ := h2
  rcases sz_03 s with hz | hz
  · have HM := hid (fun W => middle_calls s W hz)
    rw [hz] at HS
    have hm8 : hN s ≤ 8 := by obtain ⟨_, _, _, _, h, _⟩ := sz_nat hz; exact h
    by_cases hl1 : a.length = hN s
    · by_cases hl2 : b.length = hN s
      · have HE : Hid (lgC s a b = 0) := by show _ = _; unfold lgC; rw [if_pos hz, if_pos ⟨hl1, hl2⟩]
        rw [hl1, hl2]
        clear hl1 hl2 hz
        generalize hN s = m at *
        go_enter Try.func32, Try.ntmps32
        go_wp2_with (first | (go_at_call 36; refine (HS.out _).mono ?_; rintro e w' ⟨rfl, rfl⟩) | (go_at_call 37; refine (HM.out _).mono ?_; rintro e w' ⟨rfl, rfl⟩))
        go_ret
        exact ⟨by rw [HE.out]; rfl, rfl⟩
      · have HE : Hid (lgC s a b = 2) := by show _ = _; unfold lgC; rw [if_pos hz, if_neg (fun h => hl2 h.2)]
        have hb : ((b.length : Int) != (hN s : Int)) = true := by simp; omega
        rw [hl1]
        clear hl1 hl2 hz
        generalize hN s = m at *
        go_enter Try.func32, Try.ntmps32
        go_wp2_with (first | (go_at_call 36; refine (HS.out _).mono ?_; rintro e w' ⟨rfl, rfl⟩) | (go_at_call 37; refine (HM.out _).mono ?_; rintro e w' ⟨rfl, rfl⟩))
        go_ret
        exact ⟨by rw [HE.out]; rfl, rfl⟩
    · have HE : Hid (lgC s a b = 2) := by show _ = _; unfold lgC; rw [if_pos hz, if_neg (fun h => hl1 h.1)]
      have hb : ((a.length : Int) != (hN s : Int)) = true := by simp; omega
      clear hl1 hz
      generalize hN s = m at *
      go_enter Try.func32, Try.ntmps32
      go_wp2_with (first | (go_at_call 36; refine (HS.out _).mono ?_; rintro e w' ⟨rfl, rfl⟩) | (go_at_call 37; refine (HM.out _).mono ?_; rintro e w' ⟨rfl, rfl⟩))
      go_ret
      exact ⟨by rw [HE.out]; rfl, rfl⟩
  · have HE : Hid (lgC s a b = 3) := by show _ = _; unfold lgC; rw [if_neg (by rw [hz]; decide)]
    rw [hz] at HS
    clear hz
    go_enter Try.func32, Try.ntmps32
    go_wp2_with (go_at_call 36; refine (HS.out _).mono ?_; rintro e w' ⟨rfl, rfl⟩)
    go_ret
    exact ⟨by rw [HE.out]; rfl, rfl⟩
theorem lapOf_calls (s : Int) (a1 : Option Addr) (n1 c1 : Nat) (a2 : Option Addr) (n2 c2 : Nat) (w : World) :
    Calls Try.prog 23 #[.agg #[.int .i64 s, .slice a1 n1 c1, .slice a2 n2 c2]] w fun e w' => e = .returned (.agg #[.int .i64 s, .slice a1 n1 c1, .slice a2 n2 c2]) ∧ Below w.heap.size w w' := by
  have HB := hid (bmore (bmore (Below.refl _ w) (.cells #[.int .i64 s, .slice a1 n1 c1, .slice a2 n2 c2] 27)) (.cells #[.int .i64 s, .slice a1 n1 c1, .slice a2 n2 c2] 47))
  go_enter Try.func23, Try.ntmps23
  go_wp2
  exact bodyPost_ret (v := .agg #[.int .i64 s, .slice a1 n1 c1, .slice a2 n2 c2]) (by simp [results, Try.results23, go_sem]) rfl ⟨rfl, HB.out⟩
set_option maxHeartbeats 2000000 in
theorem lapFault_calls (s : Int) (vh vr : Value) (half rest : List Int) (w : World) (h1 : Sl .i64 w vh half) (h2 : Sl .i64 w vr rest) (m1 : half.length ≤ 1048576) (_ : rest.length ≤ 1048576) :
    Calls Try.prog 24 #[.agg #[.int .i64 s, vh, vr]] w fun e w' => e = .returned (.int .i64 (lfC s half rest)) ∧ Below w.heap.size w w' := by
  have HG := hid (fun W (q1 : Sl .i64 W vh half) (q2 : Sl .i64 W vr rest) => lengthFault_calls s vh vr half rest W q1 q2)
  have HA := hid (fun W (q : Sl .i64 W vh half) => areWithin_calls vh half 65536 W q m1 (by omega) (by omega))
  have HX : Hid (rest.length ≤ 16 → (∀ W, Sl .i64 W vr rest → Calls Try.prog 33 #[vr] W fun e w' => e = .returned (.agg (cells16 (half16 rest rest.length))) ∧ Below W.heap.size W w') ∧ ∀ W, Calls Try.prog 34 #[.agg (cells16 (half16 rest rest.length))] W fun e w' => e = .returned (.bool (rest.all sampB)) ∧ Below W.heap.size W w') := by
    intro hm
    refine ⟨fun W q => samplesOf_calls vr rest W q hm, fun W => ?_⟩
    have := areSamples_calls (half16 rest rest.length) W (half16_len rest rest.length (Nat.le_refl _) hm)
    rwa [half16_all] at this
  have hb := bmore (Below.refl _ w) (.cells #[.int .i64 s, vh, vr] 47)
  have H1 := hid (h1.later hb)
  have H2 := hid (h2.later hb)
  have HB := hid hb
  have HP := hid (Blk.new w #[.int .i64 s, vh, vr] 47)
  clear hb
  by_cases hg : lgC s half rest = 0
  · have hcc : szF s = 0 ∧ half.length = hN s ∧ rest.length = hN s := by
      unfold lgC at hg
      split at hg
      · rename_i h0
        split at hg
        · rename_i h; exact ⟨h0, h.1, h.2⟩
        · cases hg
      · cases hg
    obtain ⟨hz, hl1, hl2⟩ := hcc
    have hm8 : hN s ≤ 8 := by obtain ⟨_, _, _, _, h, _⟩ := sz_nat hz; exact h
    rw [hg] at HG
    cases ha1 : half.all blB
    · have HE : Hid (lfC s half rest = 3) := by show _ = _; unfold lfC; rw [if_pos hz, if_pos ⟨hl1, hl2⟩, if_neg (by rw [ha1]; simp)]
      rw [show half.all (inB (-65536) 65536) = false from ha1] at HA
      obtain ⟨a1, c1, rfl, _⟩ := h1
      obtain ⟨a2, c2, rfl, _⟩ := h2
      obtain ⟨p0, p1, p2, _⟩ := HP.out.three
      clear hg hz hl1 hl2 ha1 HX
      go_enter Try.func24, Try.ntmps24
      go_wp2_with fail
      refine (HG.out _ H1.out H2.out).mono ?_
      rintro e w' ⟨rfl, rfl⟩
      go_wp2_with fail
      refine (HA.out _ H1.out).mono ?_
      rintro e w' ⟨rfl, rfl⟩
      go_wp2
      go_ret
      exact ⟨by rw [HE.out]; rfl, HB.out⟩
    · rw [show half.all (inB (-65536) 65536) = true from ha1] at HA
      have HE : Hid (lfC s half rest = if rest.all sampB = true then 0 else 3) := by
        show _ = _
        unfold lfC
        rw [if_pos hz, if_pos ⟨hl1, hl2⟩]
        cases hb : rest.all sampB
        · rw [if_neg (by simp), if_neg (by simp)]
        · rw [if_pos ⟨ha1, rfl⟩, if_pos rfl]
      have HX := hid (HX.out (by omega))
      obtain ⟨a1, c1, rfl, _⟩ := h1
      obtain ⟨a2, c2, rfl, _⟩ := h2
      obtain ⟨p0, p1, p2, _⟩ := HP.out.three
      clear hg hz hl1 hl2 ha1
      cases hb : rest.all sampB
      · rw [hb] at HE
        rw [hb] at HX
        clear hb
        go_enter Try.func24, Try.ntmps24
        go_wp2_with fail
        refine (HG.out _ H1.out H2.out).mono ?_
        rintro e w' ⟨rfl, rfl⟩
        go_wp2_with fail
        refine (HA.out _ H1.out).mono ?_
        rintro e w' ⟨rfl, rfl⟩
        go_wp2_with fail
        refine (HX.out.1 _ H2.out).mono ?_
        rintro e w3 ⟨rfl, hb3⟩
        have HB3 := hid (bthen HB.out hb3)
        clear hb3
        generalize cells16 (half16 rest rest.length) = csx at *
        go_wp2_with fail
        refine (HX.out.2 _).mono ?_
        rintro e w4 ⟨rfl, hb4⟩
        have HBx := hid (bthen HB3.out hb4)
        clear hb4
        go_wp2
        go_ret
        exact ⟨by rw [HE.out]; rfl, HBx.out⟩
      · rw [hb] at HE
        rw [hb] at HX
        clear hb
        go_enter Try.func24, Try.ntmps24
        go_wp2_with fail
        refine (HG.out _ H1.out H2.out).mono ?_
        rintro e w' ⟨rfl, rfl⟩
        go_wp2_with fail
        refine (HA.out _ H1.out).mono ?_
        rintro e w' ⟨rfl, rfl⟩
        go_wp2_with fail
        refine (HX.out.1 _ H2.out).mono ?_
        rintro e w3 ⟨rfl, hb3⟩
        have HB3 := hid (bthen HB.out hb3)
        clear hb3
        generalize cells16 (half16 rest rest.length) = csx at *
        go_wp2_with fail
        refine (HX.out.2 _).mono ?_
        rintro e w4 ⟨rfl, hb4⟩
        have HBx := hid (bthen HB3.out hb4)
        clear hb4
        go_wp2
        go_ret
        exact ⟨by rw [HE.out]; rfl, HBx.out⟩
  · have HE : Hid (lfC s half rest = lgC s half rest) := by
      show _ = _
      unfold lfC lgC
      unfold lgC at hg
      split at hg
      · rename_i h0
        rw [if_pos h0, if_pos h0]
        split at hg
        · exact absurd rfl hg
        · rename_i h; rw [if_neg h, if_neg h]
      · rename_i h0; rw [if_neg h0, if_neg h0]
    have hgb : (lgC s half rest != 0) = true := by simpa using hg
    clear hg HA HX
    generalize lgC s half rest = c at *
    obtain ⟨a1, c1, rfl, _⟩ := h1
    obtain ⟨a2, c2, rfl, _⟩ := h2
    obtain ⟨p0, p1, p2, _⟩ := HP.out.three
    go_enter Try.func24, Try.ntmps24
    go_wp2_with fail
    refine (HG.out _ H1.out H2.out).mono ?_
    rintro e w' ⟨rfl, rfl⟩
    go_wp2
    go_ret
    exact ⟨by rw [HE.out]; rfl, HB.out⟩
theorem implLapFault_calls (s : Int) (vh vr : Value) (half rest : List Int) (w : World) (h1 : Sl .i64 w vh half) (h2 : Sl .i64 w vr rest) (m1 : half.length ≤ 1048576) (m2 : rest.length ≤ 1048576) :
    Calls Try.prog 9 #[.agg #[.int .i64 s, vh, vr]] w fun e w' => e = .returned (.int .i64 (lfC s half rest)) ∧ Below w.heap.size w w' := by
  have HF := hid (fun W (q1 : Sl .i64 W vh half) (q2 : Sl .i64 W vr rest) => lapFault_calls s vh vr half rest W q1 q2 m1 m2)
  have hb := bmore (Below.refl _ w) (.cells #[.int .i64 s, vh, vr] 27)
  have H1 := hid (h1.later hb)
  have H2 := hid (h2.later hb)
  have HB := hid hb
  have HP := hid (Blk.new w #[.int .i64 s, vh, vr] 27)
  generalize lfC s half rest = c at *
  obtain ⟨a1, c1, rfl, _⟩ := h1
  obtain ⟨a2, c2, rfl, _⟩ := h2
  obtain ⟨p0, p1, p2, _⟩ := HP.out.three
  clear hb
  go_enter Try.func9, Try.ntmps9
  go_wp2_with fail
  refine (lapOf_calls _ _ _ _ _ _ _ _).mono ?_
  rintro e w1 ⟨rfl, hb1⟩
  have HB1 := hid (bthen HB.out hb1)
  have H11 := hid (H1.out.later hb1)
  have H21 := hid (H2.out.later hb1)
  clear hb1
  go_wp2_with fail
  refine (HF.out _ H11.out H21.out).mono ?_
  rintro e w2 ⟨rfl, hb2⟩
  have HB2 := hid (bthen HB1.out hb2)
  clear hb2
  go_wp2
  go_ret
  exact ⟨rfl, HB2.out⟩
theorem synthOf_calls (s : Int) (a1 : Option Addr) (n1 c1 : Nat) (a2 : Option Addr) (n2 c2 : Nat) (w : World) :
    Calls Try.prog 25 #[.agg #[.int .i64 s, .slice a1 n1 c1, .slice a2 n2 c2]] w fun e w' => e = .returned (.agg #[.int .i64 s, .slice a1 n1 c1, .slice a2 n2 c2]) ∧ Below w.heap.size w w' := by
  have HB := hid (bmore (bmore (Below.refl _ w) (.cells #[.int .i64 s, .slice a1 n1 c1, .slice a2 n2 c2] 35)) (.cells #[.int .i64 s, .slice a1 n1 c1, .slice a2 n2 c2] 51))
  go_enter Try.func25, Try.ntmps25
  go_wp2
  exact bodyPost_ret (v := .agg #[.int .i64 s, .slice a1 n1 c1, .slice a2 n2 c2]) (by simp [results, Try.results25, go_sem]) rfl ⟨rfl, HB.out⟩
set_option maxHeartbeats 2000000 in
theorem synthFault_calls (s : Int) (vh vr : Value) (half rest : List Int) (w : World) (h1 : Sl .i64 w vh half) (h2 : Sl .i64 w vr rest) (m1 : half.length ≤ 1048576) (m2 : rest.length ≤ 1048576) :
    Calls Try.prog 26 #[.agg #[.int .i64 s, vh, vr]] w fun e w' => e = .returned (.int .i64 (syC s half rest)) ∧ Below w.heap.size w w' := by
  have HG := hid (fun W (q1 : Sl .i64 W vh half) (q2 : Sl .i64 W vr rest) => lengthFault_calls s vh vr half rest W q1 q2)
  have HA := hid (fun W (q : Sl .i64 W vh half) => areWithin_calls vh half 1073741824 W q m1 (by omega) (by omega))
  have HX : Hid (rest.length ≤ 16 → ∀ W, Sl .i64 W vr rest → Calls Try.prog 29 #[vr, .int .i64 (-268435456), .int .i64 268435456] W fun e w' => e = .returned (.bool (rest.all tlB)) ∧ w' = W) := fun _ W q => areWithin_calls vr rest 268435456 W q m2 (by omega) (by omega)
  have hb := bmore (Below.refl _ w) (.cells #[.int .i64 s, vh, vr] 51)
  have H1 := hid (h1.later hb)
  have H2 := hid (h2.later hb)
  have HB := hid hb
  have HP := hid (Blk.new w #[.int .i64 s, vh, vr] 51)
  clear hb
  by_cases hg : lgC s half rest = 0
  · have hcc : szF s = 0 ∧ half.length = hN s ∧ rest.length = hN s := by
      unfold lgC at hg
      split at hg
      · rename_i h0
        split at hg
        · rename_i h; exact ⟨h0, h.1, h.2⟩
        · cases hg
      · cases hg
    obtain ⟨hz, hl1, hl2⟩ := hcc
    have hm8 : hN s ≤ 8 := by obtain ⟨_, _, _, _, h, _⟩ := sz_nat hz; exact h
    rw [hg] at HG
    cases ha1 : half.all hdB
    · have HE : Hid (syC s half rest = 3) := by show _ = _; unfold syC; rw [if_pos hz, if_pos ⟨hl1, hl2⟩, if_neg (by rw [ha1]; simp)]
      rw [show half.all (inB (-1073741824) 1073741824) = false from ha1] at HA
      obtain ⟨a1, c1, rfl, _⟩ := h1
      obtain ⟨a2, c2, rfl, _⟩ := h2
      obtain ⟨p0, p1, p2, _⟩ := HP.out.three
      clear hg hz hl1 hl2 ha1 HX
      go_enter Try.func26, Try.ntmps26
      go_wp2_with fail
      refine (HG.out _ H1.out H2.out).mono ?_
      rintro e w' ⟨rfl, rfl⟩
      go_wp2_with fail
      refine (HA.out _ H1.out).mono ?_
      rintro e w' ⟨rfl, rfl⟩
      go_wp2
      go_ret
      exact ⟨by rw [HE.out]; rfl, HB.out⟩
    · rw [show half.all (inB (-1073741824) 1073741824) = true from ha1] at HA
      have HE : Hid (syC s half rest = if rest.all tlB = true then 0 else 3) := by
        show _ = _
        unfold syC
        rw [if_pos hz, if_pos ⟨hl1, hl2⟩]
        cases hb : rest.all tlB
        · rw [if_neg (by simp), if_neg (by simp)]
        · rw [if_pos ⟨ha1, rfl⟩, if_pos rfl]
      have HX := hid (HX.out (by omega))
      obtain ⟨a1, c1, rfl, _⟩ := h1
      obtain ⟨a2, c2, rfl, _⟩ := h2
      obtain ⟨p0, p1, p2, _⟩ := HP.out.three
      clear hg hz hl1 hl2 ha1
      cases hb : rest.all tlB
      · rw [hb] at HE
        rw [hb] at HX
        clear hb
        go_enter Try.func26, Try.ntmps26
        go_wp2_with fail
        refine (HG.out _ H1.out H2.out).mono ?_
        rintro e w' ⟨rfl, rfl⟩
        go_wp2_with fail
        refine (HA.out _ H1.out).mono ?_
        rintro e w' ⟨rfl, rfl⟩
        go_wp2_with fail
        refine (HX.out _ H2.out).mono ?_
        rintro e w3 ⟨rfl, rfl⟩
        have HBx := HB
        go_wp2
        go_ret
        exact ⟨by rw [HE.out]; rfl, HBx.out⟩
      · rw [hb] at HE
        rw [hb] at HX
        clear hb
        go_enter Try.func26, Try.ntmps26
        go_wp2_with fail
        refine (HG.out _ H1.out H2.out).mono ?_
        rintro e w' ⟨rfl, rfl⟩
        go_wp2_with fail
        refine (HA.out _ H1.out).mono ?_
        rintro e w' ⟨rfl, rfl⟩
        go_wp2_with fail
        refine (HX.out _ H2.out).mono ?_
        rintro e w3 ⟨rfl, rfl⟩
        have HBx := HB
        go_wp2
        go_ret
        exact ⟨by rw [HE.out]; rfl, HBx.out⟩
  · have HE : Hid (syC s half rest = lgC s half rest) := by
      show _ = _
      unfold syC lgC
      unfold lgC at hg
      split at hg
      · rename_i h0
        rw [if_pos h0, if_pos h0]
        split at hg
        · exact absurd rfl hg
        · rename_i h; rw [if_neg h, if_neg h]
      · rename_i h0; rw [if_neg h0, if_neg h0]
    have hgb : (lgC s half rest != 0) = true := by simpa using hg
    clear hg HA HX
    generalize lgC s half rest = c at *
    obtain ⟨a1, c1, rfl, _⟩ := h1
    obtain ⟨a2, c2, rfl, _⟩ := h2
    obtain ⟨p0, p1, p2, _⟩ := HP.out.three
    go_enter Try.func26, Try.ntmps26
    go_wp2_with fail
    refine (HG.out _ H1.out H2.out).mono ?_
    rintro e w' ⟨rfl, rfl⟩
    go_wp2
    go_ret
    exact ⟨by rw [HE.out]; rfl, HB.out⟩
theorem implSynthFault_calls (s : Int) (vh vr : Value) (half rest : List Int) (w : World) (h1 : Sl .i64 w vh half) (h2 : Sl .i64 w vr rest) (m1 : half.length ≤ 1048576) (m2 : rest.length ≤ 1048576) :
    Calls Try.prog 14 #[.agg #[.int .i64 s, vh, vr]] w fun e w' => e = .returned (.int .i64 (syC s half rest)) ∧ Below w.heap.size w w' := by
  have HF := hid (fun W (q1 : Sl .i64 W vh half) (q2 : Sl .i64 W vr rest) => synthFault_calls s vh vr half rest W q1 q2 m1 m2)
  have hb := bmore (Below.refl _ w) (.cells #[.int .i64 s, vh, vr] 35)
  have H1 := hid (h1.later hb)
  have H2 := hid (h2.later hb)
  have HB := hid hb
  have HP := hid (Blk.new w #[.int .i64 s, vh, vr] 35)
  generalize syC s half rest = c at *
  obtain ⟨a1, c1, rfl, _⟩ := h1
  obtain ⟨a2, c2, rfl, _⟩ := h2
  obtain ⟨p0, p1, p2, _⟩ := HP.out.three
  clear hb
  go_enter Try.func14, Try.ntmps14
  go_wp2_with fail
  refine (synthOf_calls _ _ _ _ _ _ _ _).mono ?_
  rintro e w1 ⟨rfl, hb1⟩
  have HB1 := hid (bthen HB.out hb1)
  have H11 := hid (H1.out.later hb1)
  have H21 := hid (H2.out.later hb1)
  clear hb1
  go_wp2_with fail
  refine (HF.out _ H11.out H21.out).mono ?_
  rintro e w2 ⟨rfl, hb2⟩
  have HB2 := hid (bthen HB1.out hb2)
  clear hb2
  go_wp2
  go_ret
  exact ⟨rfl, HB2.out⟩
end Go.Proofs.Ytnbmilhaohhnjaa.LaI
