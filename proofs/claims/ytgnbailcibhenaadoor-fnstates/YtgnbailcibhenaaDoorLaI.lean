/- The program's laps and synths: half of a size, noughts, faults, new ones, and whether two are the same. Conditions: lists of at most 1048576 numbers. -/
import Derived.Test.YtgnbailcibhenaaDoorBkI
import Derived.Test.YtgnbailcibhenaaDoorLapS
namespace Go.Proofs.YtgnbailcibhenaaDoor.LaI
open Go.ChangeShapes Go.WideShapes Go.ChangeAt Go.RowKit Go.Proofs.YtgnbailcibhenaaDoor.Num Go.Proofs.YtgnbailcibhenaaDoor.Sli Go.Proofs.YtgnbailcibhenaaDoor.App Go.Proofs.YtgnbailcibhenaaDoor.Samp Go.Proofs.YtgnbailcibhenaaDoor.SampF Go.Proofs.YtgnbailcibhenaaDoor.Blk Go.Proofs.YtgnbailcibhenaaDoor.TurM Go.Proofs.YtgnbailcibhenaaDoor.HalM Go.Proofs.YtgnbailcibhenaaDoor.LapM Go.Proofs.YtgnbailcibhenaaDoor.LapN Go.Proofs.YtgnbailcibhenaaDoor.IntL Go.Proofs.YtgnbailcibhenaaDoor.IntA Go.Proofs.YtgnbailcibhenaaDoor.LapS Go.Proofs.YtgnbailcibhenaaDoor.BkI

set_option maxHeartbeats 1000000 in
theorem equal_some (b1 off1 cap1 b2 off2 cap2 : Nat) (xs ys : List Int) (n : Nat) (w : World) (hx : xs.length = n) (hy : ys.length = n) (hlen : n ≤ 1048576) (hb1 : b1 < w.heap.size) (hb2 : b2 < w.heap.size)
    (h1 : ∀ i, i < n → w.cell? ⟨b1, off1 + i, none⟩ = some (.int .i64 (xs.getD i 0))) (h2 : ∀ i, i < n → w.cell? ⟨b2, off2 + i, none⟩ = some (.int .i64 (ys.getD i 0))) :
    Calls Tryd.prog 70 #[.slice (some ⟨b1, off1, none⟩) n cap1, .slice (some ⟨b2, off2, none⟩) n cap2] w fun e w' => e = .returned (.bool (xs == ys)) ∧ Below w.heap.size w w' := by
  have HY : Hid ((∀ i, i < n → xs.getD i 0 = ys.getD i 0) → (xs == ys) = true) := by
    intro h
    have : xs = ys := ext_g (by rw [hx, hy]) (fun i hi => h i (by omega))
    rw [this]; simp
  have HN : Hid (∀ i, i < n → xs.getD i 0 ≠ ys.getD i 0 → (xs == ys) = false) := by
    intro i _ h
    cases e : (xs == ys)
    · rfl
    · exact absurd (by rw [eq_of_beq e]) h
  have H1 := hid h1
  have H2 := hid h2
  clear h1 h2 hx hy
  generalize (xs == ys) = r at *
  go_enter Tryd.func70, Tryd.ntmps70
  go_wp2
  go_loopw [13] (fun i wr => ∃ k : Nat, k ≤ n ∧ i = .int .i64 k ∧ Hid (∀ j, j < k → xs.getD j 0 = ys.getD j 0) ∧ Hid (Below w.heap.size w wr)) (fun i _ => n - (intOf i).toNat)
  case atStart => exact ⟨0, Nat.zero_le _, rfl, fun j hj => by omega, Below.refl _ _⟩
  case round =>
    obtain ⟨k, hk, rfl, hall, HB⟩ := hrel
    by_cases hlt : k < n
    · have c1 := (HB.out.cell (p := ⟨b1, off1 + k, none⟩) hb1).trans (H1.out k hlt)
      have c2 := (HB.out.cell (p := ⟨b2, off2 + k, none⟩) hb2).trans (H2.out k hlt)
      have HD := hid HB.out.drew
      by_cases he : xs.getD k 0 = ys.getD k 0
      · have HR : Hid (∀ j, j < k + 1 → xs.getD j 0 = ys.getD j 0) := by
          intro j hj
          by_cases e : j = k
          · rw [e]; exact he
          · exact hall.out j (by omega)
        rw [← he] at c2
        clear hall he HN HY
        generalize xs.getD k 0 = x at *
        have mixed := mixed7
        go_wp2_with fail
        go_region_o
        go_wp2
        go_roundw
        case rel => exact ⟨k + 1, by omega, by go_num, HR, HD⟩
        case measure => simp [intOf]; omega
      · have HR := hid (HN.out k hlt he)
        have hb : (xs.getD k 0 != ys.getD k 0) = true := by simpa using he
        clear hall HN HY he
        generalize xs.getD k 0 = x at *
        generalize ys.getD k 0 = y at *
        have mixed := mixed7
        go_wp2_with fail
        go_region_o
        go_wp2
        go_ret
        exact ⟨by rw [HR.out]; rfl, HD.out⟩
    · have he : k = n := by omega
      subst he
      have HR := hid (HY.out hall.out)
      clear hall HN HY H1 H2
      go_wp2
      go_ret
      exact ⟨by rw [HR.out]; rfl, HB.out⟩
theorem equal_none (a1 a2 : Option Addr) (cap1 cap2 : Nat) (w : World) :
    Calls Tryd.prog 70 #[.slice a1 0 cap1, .slice a2 0 cap2] w fun e w' => e = .returned (.bool true) ∧ w' = w := by
  go_enter Tryd.func70, Tryd.ntmps70
  go_wp2
  go_loop [13] (fun i => i = .int .i64 0) (fun _ => 0)
  case atStart => exact rfl
  case round =>
    obtain rfl := hrel
    go_wp2
    go_ret
    exact ⟨rfl, rfl⟩
/-- Whether two lists are the same. -/
theorem equal_calls (v1 v2 : Value) (xs ys : List Int) (w : World) (h1 : Sl .i64 w v1 xs) (h2 : Sl .i64 w v2 ys) (m1 : xs.length ≤ 1048576) (m2 : ys.length ≤ 1048576) :
    Calls Tryd.prog 70 #[v1, v2] w fun e w' => e = .returned (.bool (xs == ys)) ∧ Below w.heap.size w w' := by
  obtain ⟨a1, cap1, rfl, hc1⟩ := h1
  obtain ⟨a2, cap2, rfl, hc2⟩ := h2
  by_cases hl : xs.length = ys.length
  · rw [← hl]
    by_cases hx : xs = []
    · subst hx
      have hy : ys = [] := List.eq_nil_of_length_eq_zero hl.symm
      subst hy
      refine (equal_none a1 a2 cap1 cap2 w).mono ?_
      rintro e w' ⟨rfl, rfl⟩
      exact ⟨rfl, Below.refl _ _⟩
    · obtain ⟨b1, off1, rfl, hl1, hcell1⟩ := hc1 hx
      obtain ⟨b2, off2, rfl, hl2, hcell2⟩ := hc2 (by intro e; rw [e] at hl; exact hx (List.eq_nil_of_length_eq_zero hl))
      rw [← hl] at hcell2
      exact equal_some b1 off1 cap1 b2 off2 cap2 xs ys xs.length w rfl hl.symm m1 hl1 hl2 hcell1 hcell2
  · have he : (xs == ys) = false := by
      cases e : (xs == ys)
      · rfl
      · exact absurd (by rw [eq_of_beq e]) hl
    have hb : ((xs.length : Int) != (ys.length : Int)) = true := by simp; omega
    rw [he]
    clear he hc1 hc2 hl
    go_enter Tryd.func70, Tryd.ntmps70
    go_wp2
    go_ret
    exact ⟨rfl, Below.refl _ _⟩
theorem middle_calls (s : Int) (w : World) (hz : szF s = 0) :
    Calls Tryd.prog 78 #[.int .i64 s] w fun e w' => e = .returned (.int .i64 (hN s : Int)) ∧ w' = w := by
  obtain ⟨_, e1, e2, e3, e4, e5⟩ := sz_nat hz
  have hm0 : s.tdiv 2 = (hN s : Int) := by rw [Int.tdiv_eq_ediv_of_nonneg (by omega)]; exact e5
  have hbd : 0 ≤ s ∧ s ≤ 16 := by omega
  clear e1 e2 e5 hz
  generalize hN s = m at *
  go_enter Tryd.func78, Tryd.ntmps78
  go_wp2
  go_ret
  exact ⟨rfl, rfl⟩
theorem noughts_calls (s : Int) (w : World) (hz : szF s = 0) :
    Calls Tryd.prog 45 #[.int .i64 s] w fun e w' => e = .returned (.slice (some ⟨w.heap.size, 0, none⟩) (hN s : Nat) (hN s : Nat)) ∧ OwI w.heap.size w' (.slice (some ⟨w.heap.size, 0, none⟩) (hN s : Nat) (hN s : Nat)) (List.replicate (hN s) 0) ∧ Below w.heap.size w w' := by
  obtain ⟨i0, hi, hz0, hz1, hz2⟩ := info_parts infoI
  have HM := hid (fun W => middle_calls s W hz)
  have hm8 : hN s ≤ 8 := by obtain ⟨_, _, _, _, h, _⟩ := sz_nat hz; exact h
  clear hz
  generalize hN s = m at *
  go_enter Tryd.func45, Tryd.ntmps45
  go_wp2_with fail
  refine (HM.out _).mono ?_
  rintro e w' ⟨rfl, rfl⟩
  go_wp2_with (at_make; refine wpList_make_full _ rfl _ _ 27 rfl w'.heap.size 2 i0 (.int .i64 0) 1 Tryd.underlying27 hi hz0 hz1 .i64 .i64 _ _ m rfl rfl rfl rfl ?c1 ?c2 ?c3 ?_)
  case c1 => rw [hz2]; omega
  case c2 => unfold maxLen; omega
  case c3 => exact Nat.le_refl _
  intro w1 hown hgrow
  rw [made_zero] at hown
  have HO : Hid (OwI w'.heap.size w1 (.slice (some ⟨w'.heap.size, 0, none⟩) m m) (List.replicate m 0)) := by
    show World.ownsRow _ _ _ _ _ (List.replicate m (0 : Int)).length _
    rw [List.length_replicate]; exact hown
  have HB := hid ((Below.refl _ _).grown hgrow (Nat.le_refl _) (fun k h => by cases h) : Below w'.heap.size w' w1)
  clear hgrow hown
  go_wp2
  go_ret
  exact ⟨rfl, HO.out, HB.out⟩
/-- The codes ahead of the bounds. -/
def lgC (s : Int) (a b : List Int) : Int := if szF s = 0 then (if a.length = hN s ∧ b.length = hN s then 0 else 2) else 3
theorem lengthFault_calls (s : Int) (v1 v2 : Value) (a b : List Int) (w : World) (h1 : Sl .i64 w v1 a) (h2 : Sl .i64 w v2 b) :
    Calls Tryd.prog 79 #[.int .i64 s, v1, v2] w fun e w' => e = .returned (.int .i64 (lgC s a b)) ∧ w' = w := by
  have HS := hid (implSizeFault_calls s)
  obtain ⟨a1, c1, rfl, _⟩ := h1
  obtain ⟨a2, c2, rfl, _⟩ := h2
  rcases sz_03 s with hz | hz
  · have HM := hid (fun W => middle_calls s W hz)
    rw [hz] at HS
    have hm8 : hN s ≤ 8 := by obtain ⟨_, _, _, _, h, _⟩ := sz_nat hz; exact h
    by_cases hl1 : a.length = hN s
    · by_cases hl2 : b.length = hN s
      · have HE : Hid (lgC s a b = 0) := by show _ = _; unfold lgC; rw [if_pos hz, if_pos ⟨hl1, hl2⟩]
        rw [hl1, hl2]
        clear hl1 hl2 hz
        generalize hN s = m at *
        go_enter Tryd.func79, Tryd.ntmps79
        go_wp2_with (first | (go_at_call 44; refine (HS.out _).mono ?_; rintro e w' ⟨rfl, rfl⟩) | (go_at_call 78; refine (HM.out _).mono ?_; rintro e w' ⟨rfl, rfl⟩))
        go_ret
        exact ⟨by rw [HE.out]; rfl, rfl⟩
      · have HE : Hid (lgC s a b = 2) := by show _ = _; unfold lgC; rw [if_pos hz, if_neg (fun h => hl2 h.2)]
        have hb : ((b.length : Int) != (hN s : Int)) = true := by simp; omega
        rw [hl1]
        clear hl1 hl2 hz
        generalize hN s = m at *
        go_enter Tryd.func79, Tryd.ntmps79
        go_wp2_with (first | (go_at_call 44; refine (HS.out _).mono ?_; rintro e w' ⟨rfl, rfl⟩) | (go_at_call 78; refine (HM.out _).mono ?_; rintro e w' ⟨rfl, rfl⟩))
        go_ret
        exact ⟨by rw [HE.out]; rfl, rfl⟩
    · have HE : Hid (lgC s a b = 2) := by show _ = _; unfold lgC; rw [if_pos hz, if_neg (fun h => hl1 h.1)]
      have hb : ((a.length : Int) != (hN s : Int)) = true := by simp; omega
      clear hl1 hz
      generalize hN s = m at *
      go_enter Tryd.func79, Tryd.ntmps79
      go_wp2_with (first | (go_at_call 44; refine (HS.out _).mono ?_; rintro e w' ⟨rfl, rfl⟩) | (go_at_call 78; refine (HM.out _).mono ?_; rintro e w' ⟨rfl, rfl⟩))
      go_ret
      exact ⟨by rw [HE.out]; rfl, rfl⟩
  · have HE : Hid (lgC s a b = 3) := by show _ = _; unfold lgC; rw [if_neg (by rw [hz]; decide)]
    rw [hz] at HS
    clear hz
    go_enter Tryd.func79, Tryd.ntmps79
    go_wp2_with (go_at_call 44; refine (HS.out _).mono ?_; rintro e w' ⟨rfl, rfl⟩)
    go_ret
    exact ⟨by rw [HE.out]; rfl, rfl⟩
theorem lapOf_calls (s : Int) (a1 : Option Addr) (n1 c1 : Nat) (a2 : Option Addr) (n2 c2 : Nat) (w : World) :
    Calls Tryd.prog 48 #[.agg #[.int .i64 s, .slice a1 n1 c1, .slice a2 n2 c2]] w fun e w' => e = .returned (.agg #[.int .i64 s, .slice a1 n1 c1, .slice a2 n2 c2]) ∧ Below w.heap.size w w' := by
  have HB := hid (bmore (bmore (Below.refl _ w) (.cells #[.int .i64 s, .slice a1 n1 c1, .slice a2 n2 c2] 29)) (.cells #[.int .i64 s, .slice a1 n1 c1, .slice a2 n2 c2] 95))
  go_enter Tryd.func48, Tryd.ntmps48
  go_wp2
  exact bodyPost_ret (v := .agg #[.int .i64 s, .slice a1 n1 c1, .slice a2 n2 c2]) (by simp [results, Tryd.results48, go_sem]) rfl ⟨rfl, HB.out⟩
theorem lapTold_calls (s : Int) (a1 : Option Addr) (n1 c1 : Nat) (a2 : Option Addr) (n2 c2 : Nat) (w : World) :
    Calls Tryd.prog 46 #[.agg #[.int .i64 s, .slice a1 n1 c1, .slice a2 n2 c2]] w fun e w' => e = .returned (.agg #[.int .i64 s, .slice a1 n1 c1, .slice a2 n2 c2]) ∧ Below w.heap.size w w' := by
  have HB := hid (bmore (bmore (Below.refl _ w) (.cells #[.int .i64 s, .slice a1 n1 c1, .slice a2 n2 c2] 95)) (.cells #[.int .i64 s, .slice a1 n1 c1, .slice a2 n2 c2] 29))
  go_enter Tryd.func46, Tryd.ntmps46
  go_wp2
  exact bodyPost_ret (v := .agg #[.int .i64 s, .slice a1 n1 c1, .slice a2 n2 c2]) (by simp [results, Tryd.results46, go_sem]) rfl ⟨rfl, HB.out⟩
set_option maxHeartbeats 2000000 in
theorem lapFault_calls (s : Int) (vh vr : Value) (half rest : List Int) (w : World) (h1 : Sl .i64 w vh half) (h2 : Sl .i64 w vr rest) (m1 : half.length ≤ 1048576) (_ : rest.length ≤ 1048576) :
    Calls Tryd.prog 49 #[.agg #[.int .i64 s, vh, vr]] w fun e w' => e = .returned (.int .i64 (lfC s half rest)) ∧ Below w.heap.size w w' := by
  have HG := hid (fun W (q1 : Sl .i64 W vh half) (q2 : Sl .i64 W vr rest) => lengthFault_calls s vh vr half rest W q1 q2)
  have HA := hid (fun W (q : Sl .i64 W vh half) => areWithin_calls vh half 65536 W q m1 (by omega) (by omega))
  have HX : Hid (rest.length ≤ 16 → (∀ W, Sl .i64 W vr rest → Calls Tryd.prog 81 #[vr] W fun e w' => e = .returned (.agg (cells16 (half16 rest rest.length))) ∧ Below W.heap.size W w') ∧ ∀ W, Calls Tryd.prog 82 #[.agg (cells16 (half16 rest rest.length))] W fun e w' => e = .returned (.bool (rest.all sampB)) ∧ Below W.heap.size W w') := by
    intro hm
    refine ⟨fun W q => samplesOf_calls vr rest W q hm, fun W => ?_⟩
    have := areSamples_calls (half16 rest rest.length) W (half16_len rest rest.length (Nat.le_refl _) hm)
    rwa [half16_all] at this
  have hb := bmore (Below.refl _ w) (.cells #[.int .i64 s, vh, vr] 95)
  have H1 := hid (h1.later hb)
  have H2 := hid (h2.later hb)
  have HB := hid hb
  have HP := hid (Blk.new w #[.int .i64 s, vh, vr] 95)
  clear hb
  by_cases hg : lgC s half rest = 0
  · have hcc : szF s = 0 ∧ half.length = hN s ∧ rest.length = hN s := by
      unfold lgC at hg
      split at hg
      · rename_i h0
        split at hg
        · rename_i h; exact ⟨h0, h.1, h.2⟩
        · cases hg
      · cases hg
    obtain ⟨hz, hl1, hl2⟩ := hcc
    have hm8 : hN s ≤ 8 := by obtain ⟨_, _, _, _, h, _⟩ := sz_nat hz; exact h
    rw [hg] at HG
    cases ha1 : half.all blB
    · have HE : Hid (lfC s half rest = 3) := by show _ = _; unfold lfC; rw [if_pos hz, if_pos ⟨hl1, hl2⟩, if_neg (by rw [ha1]; simp)]
      rw [show half.all (inB (-65536) 65536) = false from ha1] at HA
      obtain ⟨a1, c1, rfl, _⟩ := h1
      obtain ⟨a2, c2, rfl, _⟩ := h2
      obtain ⟨p0, p1, p2, _⟩ := HP.out.three
      clear hg hz hl1 hl2 ha1 HX
      go_enter Tryd.func49, Tryd.ntmps49
      go_wp2_with fail
      refine (HG.out _ H1.out H2.out).mono ?_
      rintro e w' ⟨rfl, rfl⟩
      go_wp2_with fail
      refine (HA.out _ H1.out).mono ?_
      rintro e w' ⟨rfl, rfl⟩
      go_wp2
      go_ret
      exact ⟨by rw [HE.out]; rfl, HB.out⟩
    · rw [show half.all (inB (-65536) 65536) = true from ha1] at HA
      have HE : Hid (lfC s half rest = if rest.all sampB = true then 0 else 3) := by
        show _ = _
        unfold lfC
        rw [if_pos hz, if_pos ⟨hl1, hl2⟩]
        cases hb : rest.all sampB
        · rw [if_neg (by simp), if_neg (by simp)]
        · rw [if_pos ⟨ha1, rfl⟩, if_pos rfl]
      have HX := hid (HX.out (by omega))
      obtain ⟨a1, c1, rfl, _⟩ := h1
      obtain ⟨a2, c2, rfl, _⟩ := h2
      obtain ⟨p0, p1, p2, _⟩ := HP.out.three
      clear hg hz hl1 hl2 ha1
      cases hb : rest.all sampB
      · rw [hb] at HE
        rw [hb] at HX
        clear hb
        go_enter Tryd.func49, Tryd.ntmps49
        go_wp2_with fail
        refine (HG.out _ H1.out H2.out).mono ?_
        rintro e w' ⟨rfl, rfl⟩
        go_wp2_with fail
        refine (HA.out _ H1.out).mono ?_
        rintro e w' ⟨rfl, rfl⟩
        go_wp2_with fail
        refine (HX.out.1 _ H2.out).mono ?_
        rintro e w3 ⟨rfl, hb3⟩
        have HB3 := hid (bthen HB.out hb3)
        clear hb3
        generalize cells16 (half16 rest rest.length) = csx at *
        go_wp2_with fail
        refine (HX.out.2 _).mono ?_
        rintro e w4 ⟨rfl, hb4⟩
        have HBx := hid (bthen HB3.out hb4)
        clear hb4
        go_wp2
        go_ret
        exact ⟨by rw [HE.out]; rfl, HBx.out⟩
      · rw [hb] at HE
        rw [hb] at HX
        clear hb
        go_enter Tryd.func49, Tryd.ntmps49
        go_wp2_with fail
        refine (HG.out _ H1.out H2.out).mono ?_
        rintro e w' ⟨rfl, rfl⟩
        go_wp2_with fail
        refine (HA.out _ H1.out).mono ?_
        rintro e w' ⟨rfl, rfl⟩
        go_wp2_with fail
        refine (HX.out.1 _ H2.out).mono ?_
        rintro e w3 ⟨rfl, hb3⟩
        have HB3 := hid (bthen HB.out hb3)
        clear hb3
        generalize cells16 (half16 rest rest.length) = csx at *
        go_wp2_with fail
        refine (HX.out.2 _).mono ?_
        rintro e w4 ⟨rfl, hb4⟩
        have HBx := hid (bthen HB3.out hb4)
        clear hb4
        go_wp2
        go_ret
        exact ⟨by rw [HE.out]; rfl, HBx.out⟩
  · have HE : Hid (lfC s half rest = lgC s half rest) := by
      show _ = _
      unfold lfC lgC
      unfold lgC at hg
      split at hg
      · rename_i h0
        rw [if_pos h0, if_pos h0]
        split at hg
        · exact absurd rfl hg
        · rename_i h; rw [if_neg h, if_neg h]
      · rename_i h0; rw [if_neg h0, if_neg h0]
    have hgb : (lgC s half rest != 0) = true := by simpa using hg
    clear hg HA HX
    generalize lgC s half rest = c at *
    obtain ⟨a1, c1, rfl, _⟩ := h1
    obtain ⟨a2, c2, rfl, _⟩ := h2
    obtain ⟨p0, p1, p2, _⟩ := HP.out.three
    go_enter Tryd.func49, Tryd.ntmps49
    go_wp2_with fail
    refine (HG.out _ H1.out H2.out).mono ?_
    rintro e w' ⟨rfl, rfl⟩
    go_wp2
    go_ret
    exact ⟨by rw [HE.out]; rfl, HB.out⟩
theorem implLapFault_calls (s : Int) (vh vr : Value) (half rest : List Int) (w : World) (h1 : Sl .i64 w vh half) (h2 : Sl .i64 w vr rest) (m1 : half.length ≤ 1048576) (m2 : rest.length ≤ 1048576) :
    Calls Tryd.prog 11 #[.agg #[.int .i64 s, vh, vr]] w fun e w' => e = .returned (.int .i64 (lfC s half rest)) ∧ Below w.heap.size w w' := by
  have HF := hid (fun W (q1 : Sl .i64 W vh half) (q2 : Sl .i64 W vr rest) => lapFault_calls s vh vr half rest W q1 q2 m1 m2)
  have hb := bmore (Below.refl _ w) (.cells #[.int .i64 s, vh, vr] 29)
  have H1 := hid (h1.later hb)
  have H2 := hid (h2.later hb)
  have HB := hid hb
  have HP := hid (Blk.new w #[.int .i64 s, vh, vr] 29)
  generalize lfC s half rest = c at *
  obtain ⟨a1, c1, rfl, _⟩ := h1
  obtain ⟨a2, c2, rfl, _⟩ := h2
  obtain ⟨p0, p1, p2, _⟩ := HP.out.three
  clear hb
  go_enter Tryd.func11, Tryd.ntmps11
  go_wp2_with fail
  refine (lapOf_calls _ _ _ _ _ _ _ _).mono ?_
  rintro e w1 ⟨rfl, hb1⟩
  have HB1 := hid (bthen HB.out hb1)
  have H11 := hid (H1.out.later hb1)
  have H21 := hid (H2.out.later hb1)
  clear hb1
  go_wp2_with fail
  refine (HF.out _ H11.out H21.out).mono ?_
  rintro e w2 ⟨rfl, hb2⟩
  have HB2 := hid (bthen HB1.out hb2)
  clear hb2
  go_wp2
  go_ret
  exact ⟨rfl, HB2.out⟩
theorem synthOf_calls (s : Int) (a1 : Option Addr) (n1 c1 : Nat) (a2 : Option Addr) (n2 c2 : Nat) (w : World) :
    Calls Tryd.prog 50 #[.agg #[.int .i64 s, .slice a1 n1 c1, .slice a2 n2 c2]] w fun e w' => e = .returned (.agg #[.int .i64 s, .slice a1 n1 c1, .slice a2 n2 c2]) ∧ Below w.heap.size w w' := by
  have HB := hid (bmore (bmore (Below.refl _ w) (.cells #[.int .i64 s, .slice a1 n1 c1, .slice a2 n2 c2] 34)) (.cells #[.int .i64 s, .slice a1 n1 c1, .slice a2 n2 c2] 99))
  go_enter Tryd.func50, Tryd.ntmps50
  go_wp2
  exact bodyPost_ret (v := .agg #[.int .i64 s, .slice a1 n1 c1, .slice a2 n2 c2]) (by simp [results, Tryd.results50, go_sem]) rfl ⟨rfl, HB.out⟩
theorem synthTold_calls (s : Int) (a1 : Option Addr) (n1 c1 : Nat) (a2 : Option Addr) (n2 c2 : Nat) (w : World) :
    Calls Tryd.prog 47 #[.agg #[.int .i64 s, .slice a1 n1 c1, .slice a2 n2 c2]] w fun e w' => e = .returned (.agg #[.int .i64 s, .slice a1 n1 c1, .slice a2 n2 c2]) ∧ Below w.heap.size w w' := by
  have HB := hid (bmore (bmore (Below.refl _ w) (.cells #[.int .i64 s, .slice a1 n1 c1, .slice a2 n2 c2] 99)) (.cells #[.int .i64 s, .slice a1 n1 c1, .slice a2 n2 c2] 34))
  go_enter Tryd.func47, Tryd.ntmps47
  go_wp2
  exact bodyPost_ret (v := .agg #[.int .i64 s, .slice a1 n1 c1, .slice a2 n2 c2]) (by simp [results, Tryd.results47, go_sem]) rfl ⟨rfl, HB.out⟩
set_option maxHeartbeats 2000000 in
theorem synthFault_calls (s : Int) (vh vr : Value) (half rest : List Int) (w : World) (h1 : Sl .i64 w vh half) (h2 : Sl .i64 w vr rest) (m1 : half.length ≤ 1048576) (m2 : rest.length ≤ 1048576) :
    Calls Tryd.prog 51 #[.agg #[.int .i64 s, vh, vr]] w fun e w' => e = .returned (.int .i64 (syC s half rest)) ∧ Below w.heap.size w w' := by
  have HG := hid (fun W (q1 : Sl .i64 W vh half) (q2 : Sl .i64 W vr rest) => lengthFault_calls s vh vr half rest W q1 q2)
  have HA := hid (fun W (q : Sl .i64 W vh half) => areWithin_calls vh half 1073741824 W q m1 (by omega) (by omega))
  have HX : Hid (rest.length ≤ 16 → ∀ W, Sl .i64 W vr rest → Calls Tryd.prog 80 #[vr, .int .i64 (-268435456), .int .i64 268435456] W fun e w' => e = .returned (.bool (rest.all tlB)) ∧ w' = W) := fun _ W q => areWithin_calls vr rest 268435456 W q m2 (by omega) (by omega)
  have hb := bmore (Below.refl _ w) (.cells #[.int .i64 s, vh, vr] 99)
  have H1 := hid (h1.later hb)
  have H2 := hid (h2.later hb)
  have HB := hid hb
  have HP := hid (Blk.new w #[.int .i64 s, vh, vr] 99)
  clear hb
  by_cases hg : lgC s half rest = 0
  · have hcc : szF s = 0 ∧ half.length = hN s ∧ rest.length = hN s := by
      unfold lgC at hg
      split at hg
      · rename_i h0
        split at hg
        · rename_i h; exact ⟨h0, h.1, h.2⟩
        · cases hg
      · cases hg
    obtain ⟨hz, hl1, hl2⟩ := hcc
    have hm8 : hN s ≤ 8 := by obtain ⟨_, _, _, _, h, _⟩ := sz_nat hz; exact h
    rw [hg] at HG
    cases ha1 : half.all hdB
    · have HE : Hid (syC s half rest = 3) := by show _ = _; unfold syC; rw [if_pos hz, if_pos ⟨hl1, hl2⟩, if_neg (by rw [ha1]; simp)]
      rw [show half.all (inB (-1073741824) 1073741824) = false from ha1] at HA
      obtain ⟨a1, c1, rfl, _⟩ := h1
      obtain ⟨a2, c2, rfl, _⟩ := h2
      obtain ⟨p0, p1, p2, _⟩ := HP.out.three
      clear hg hz hl1 hl2 ha1 HX
      go_enter Tryd.func51, Tryd.ntmps51
      go_wp2_with fail
      refine (HG.out _ H1.out H2.out).mono ?_
      rintro e w' ⟨rfl, rfl⟩
      go_wp2_with fail
      refine (HA.out _ H1.out).mono ?_
      rintro e w' ⟨rfl, rfl⟩
      go_wp2
      go_ret
      exact ⟨by rw [HE.out]; rfl, HB.out⟩
    · rw [show half.all (inB (-1073741824) 1073741824) = true from ha1] at HA
      have HE : Hid (syC s half rest = if rest.all tlB = true then 0 else 3) := by
        show _ = _
        unfold syC
        rw [if_pos hz, if_pos ⟨hl1, hl2⟩]
        cases hb : rest.all tlB
        · rw [if_neg (by simp), if_neg (by simp)]
        · rw [if_pos ⟨ha1, rfl⟩, if_pos rfl]
      have HX := hid (HX.out (by omega))
      obtain ⟨a1, c1, rfl, _⟩ := h1
      obtain ⟨a2, c2, rfl, _⟩ := h2
      obtain ⟨p0, p1, p2, _⟩ := HP.out.three
      clear hg hz hl1 hl2 ha1
      cases hb : rest.all tlB
      · rw [hb] at HE
        rw [hb] at HX
        clear hb
        go_enter Tryd.func51, Tryd.ntmps51
        go_wp2_with fail
        refine (HG.out _ H1.out H2.out).mono ?_
        rintro e w' ⟨rfl, rfl⟩
        go_wp2_with fail
        refine (HA.out _ H1.out).mono ?_
        rintro e w' ⟨rfl, rfl⟩
        go_wp2_with fail
        refine (HX.out _ H2.out).mono ?_
        rintro e w3 ⟨rfl, rfl⟩
        have HBx := HB
        go_wp2
        go_ret
        exact ⟨by rw [HE.out]; rfl, HBx.out⟩
      · rw [hb] at HE
        rw [hb] at HX
        clear hb
        go_enter Tryd.func51, Tryd.ntmps51
        go_wp2_with fail
        refine (HG.out _ H1.out H2.out).mono ?_
        rintro e w' ⟨rfl, rfl⟩
        go_wp2_with fail
        refine (HA.out _ H1.out).mono ?_
        rintro e w' ⟨rfl, rfl⟩
        go_wp2_with fail
        refine (HX.out _ H2.out).mono ?_
        rintro e w3 ⟨rfl, rfl⟩
        have HBx := HB
        go_wp2
        go_ret
        exact ⟨by rw [HE.out]; rfl, HBx.out⟩
  · have HE : Hid (syC s half rest = lgC s half rest) := by
      show _ = _
      unfold syC lgC
      unfold lgC at hg
      split at hg
      · rename_i h0
        rw [if_pos h0, if_pos h0]
        split at hg
        · exact absurd rfl hg
        · rename_i h; rw [if_neg h, if_neg h]
      · rename_i h0; rw [if_neg h0, if_neg h0]
    have hgb : (lgC s half rest != 0) = true := by simpa using hg
    clear hg HA HX
    generalize lgC s half rest = c at *
    obtain ⟨a1, c1, rfl, _⟩ := h1
    obtain ⟨a2, c2, rfl, _⟩ := h2
    obtain ⟨p0, p1, p2, _⟩ := HP.out.three
    go_enter Tryd.func51, Tryd.ntmps51
    go_wp2_with fail
    refine (HG.out _ H1.out H2.out).mono ?_
    rintro e w' ⟨rfl, rfl⟩
    go_wp2
    go_ret
    exact ⟨by rw [HE.out]; rfl, HB.out⟩
theorem implSynthFault_calls (s : Int) (vh vr : Value) (half rest : List Int) (w : World) (h1 : Sl .i64 w vh half) (h2 : Sl .i64 w vr rest) (m1 : half.length ≤ 1048576) (m2 : rest.length ≤ 1048576) :
    Calls Tryd.prog 12 #[.agg #[.int .i64 s, vh, vr]] w fun e w' => e = .returned (.int .i64 (syC s half rest)) ∧ Below w.heap.size w w' := by
  have HF := hid (fun W (q1 : Sl .i64 W vh half) (q2 : Sl .i64 W vr rest) => synthFault_calls s vh vr half rest W q1 q2 m1 m2)
  have hb := bmore (Below.refl _ w) (.cells #[.int .i64 s, vh, vr] 34)
  have H1 := hid (h1.later hb)
  have H2 := hid (h2.later hb)
  have HB := hid hb
  have HP := hid (Blk.new w #[.int .i64 s, vh, vr] 34)
  generalize syC s half rest = c at *
  obtain ⟨a1, c1, rfl, _⟩ := h1
  obtain ⟨a2, c2, rfl, _⟩ := h2
  obtain ⟨p0, p1, p2, _⟩ := HP.out.three
  clear hb
  go_enter Tryd.func12, Tryd.ntmps12
  go_wp2_with fail
  refine (synthOf_calls _ _ _ _ _ _ _ _).mono ?_
  rintro e w1 ⟨rfl, hb1⟩
  have HB1 := hid (bthen HB.out hb1)
  have H11 := hid (H1.out.later hb1)
  have H21 := hid (H2.out.later hb1)
  clear hb1
  go_wp2_with fail
  refine (HF.out _ H11.out H21.out).mono ?_
  rintro e w2 ⟨rfl, hb2⟩
  have HB2 := hid (bthen HB1.out hb2)
  clear hb2
  go_wp2
  go_ret
  exact ⟨rfl, HB2.out⟩
theorem implSameLaps_calls (s1 s2 : Int) (v1 v2 v3 v4 : Value) (x1 x2 x3 x4 : List Int) (w : World) (h1 : Sl .i64 w v1 x1) (h2 : Sl .i64 w v2 x2) (h3 : Sl .i64 w v3 x3) (h4 : Sl .i64 w v4 x4) (m1 : x1.length ≤ 1048576) (m2 : x2.length ≤ 1048576) (m3 : x3.length ≤ 1048576) (m4 : x4.length ≤ 1048576) :
    Calls Tryd.prog 20 #[.agg #[.int .i64 s1, v1, v2], .agg #[.int .i64 s2, v3, v4]] w fun e w' => e = .returned (.bool (s1 == s2 && x1 == x3 && x2 == x4)) ∧ Below w.heap.size w w' := by
  have HA1 := hid (fun W (hW : Sl .i64 W v1 x1) (hW2 : Sl .i64 W v3 x3) => equal_calls v1 v3 x1 x3 W hW hW2 m1 m3)
  have HA2 := hid (fun W (hW : Sl .i64 W v2 x2) (hW2 : Sl .i64 W v4 x4) => equal_calls v2 v4 x2 x4 W hW hW2 m2 m4)
  have hb := bmore (bmore (Below.refl _ w) (.cells #[.int .i64 s1, v1, v2] 29)) (.cells #[.int .i64 s2, v3, v4] 29)
  have H1 := hid (h1.later hb)
  have H2 := hid (h2.later hb)
  have H3 := hid (h3.later hb)
  have H4 := hid (h4.later hb)
  have HB := hid hb
  obtain ⟨a1, c1, rfl, _⟩ := h1
  obtain ⟨a2, c2, rfl, _⟩ := h2
  obtain ⟨a3, c3, rfl, _⟩ := h3
  obtain ⟨a4, c4, rfl, _⟩ := h4
  clear hb
  cases hs : (s1 == s2)
  · rw [show (false && x1 == x3 && x2 == x4) = false from rfl]
    go_enter Tryd.func20, Tryd.ntmps20
    go_wp2
    go_ret
    exact ⟨rfl, HB.out⟩
  · cases hx : (x1 == x3)
    · rw [hx] at HA1
      rw [show (true && false && x2 == x4) = false from rfl]
      clear hx
      go_enter Tryd.func20, Tryd.ntmps20
      go_wp2_with fail
      refine (HA1.out _ H1.out H3.out).mono ?_
      rintro e w1 ⟨rfl, hb1⟩
      have HB1 := hid (bthen HB.out hb1)
      clear hb1
      go_wp2
      go_ret
      exact ⟨rfl, HB1.out⟩
    · rw [hx] at HA1
      rw [show (true && true && x2 == x4) = (x2 == x4) from rfl]
      clear hx
      generalize (x2 == x4) = bb at *
      go_enter Tryd.func20, Tryd.ntmps20
      go_wp2_with fail
      refine (HA1.out _ H1.out H3.out).mono ?_
      rintro e w1 ⟨rfl, hb1⟩
      have HB1 := hid (bthen HB.out hb1)
      have H21 := hid (H2.out.later hb1)
      have H41 := hid (H4.out.later hb1)
      obtain ⟨hP, hQ, _, _⟩ := boxes2 hb1
      obtain ⟨p0, p1, p2, _⟩ := hP.three
      obtain ⟨q0, q1, q2, _⟩ := hQ.three
      clear hb1 hP hQ H1 H3
      go_wp2_with fail
      refine (HA2.out _ H21.out H41.out).mono ?_
      rintro e w2 ⟨rfl, hb2⟩
      have HB2 := hid (bthen HB1.out hb2)
      clear hb2
      go_wp2
      go_ret
      exact ⟨rfl, HB2.out⟩
theorem implSameSynths_calls (s1 s2 : Int) (v1 v2 v3 v4 : Value) (x1 x2 x3 x4 : List Int) (w : World) (h1 : Sl .i64 w v1 x1) (h2 : Sl .i64 w v2 x2) (h3 : Sl .i64 w v3 x3) (h4 : Sl .i64 w v4 x4) (m1 : x1.length ≤ 1048576) (m2 : x2.length ≤ 1048576) (m3 : x3.length ≤ 1048576) (m4 : x4.length ≤ 1048576) :
    Calls Tryd.prog 21 #[.agg #[.int .i64 s1, v1, v2], .agg #[.int .i64 s2, v3, v4]] w fun e w' => e = .returned (.bool (s1 == s2 && x1 == x3 && x2 == x4)) ∧ Below w.heap.size w w' := by
  have HA1 := hid (fun W (hW : Sl .i64 W v1 x1) (hW2 : Sl .i64 W v3 x3) => equal_calls v1 v3 x1 x3 W hW hW2 m1 m3)
  have HA2 := hid (fun W (hW : Sl .i64 W v2 x2) (hW2 : Sl .i64 W v4 x4) => equal_calls v2 v4 x2 x4 W hW hW2 m2 m4)
  have hb := bmore (bmore (Below.refl _ w) (.cells #[.int .i64 s1, v1, v2] 34)) (.cells #[.int .i64 s2, v3, v4] 34)
  have H1 := hid (h1.later hb)
  have H2 := hid (h2.later hb)
  have H3 := hid (h3.later hb)
  have H4 := hid (h4.later hb)
  have HB := hid hb
  obtain ⟨a1, c1, rfl, _⟩ := h1
  obtain ⟨a2, c2, rfl, _⟩ := h2
  obtain ⟨a3, c3, rfl, _⟩ := h3
  obtain ⟨a4, c4, rfl, _⟩ := h4
  clear hb
  cases hs : (s1 == s2)
  · rw [show (false && x1 == x3 && x2 == x4) = false from rfl]
    go_enter Tryd.func21, Tryd.ntmps21
    go_wp2
    go_ret
    exact ⟨rfl, HB.out⟩
  · cases hx : (x1 == x3)
    · rw [hx] at HA1
      rw [show (true && false && x2 == x4) = false from rfl]
      clear hx
      go_enter Tryd.func21, Tryd.ntmps21
      go_wp2_with fail
      refine (HA1.out _ H1.out H3.out).mono ?_
      rintro e w1 ⟨rfl, hb1⟩
      have HB1 := hid (bthen HB.out hb1)
      clear hb1
      go_wp2
      go_ret
      exact ⟨rfl, HB1.out⟩
    · rw [hx] at HA1
      rw [show (true && true && x2 == x4) = (x2 == x4) from rfl]
      clear hx
      generalize (x2 == x4) = bb at *
      go_enter Tryd.func21, Tryd.ntmps21
      go_wp2_with fail
      refine (HA1.out _ H1.out H3.out).mono ?_
      rintro e w1 ⟨rfl, hb1⟩
      have HB1 := hid (bthen HB.out hb1)
      have H21 := hid (H2.out.later hb1)
      have H41 := hid (H4.out.later hb1)
      obtain ⟨hP, hQ, _, _⟩ := boxes2 hb1
      obtain ⟨p0, p1, p2, _⟩ := hP.three
      obtain ⟨q0, q1, q2, _⟩ := hQ.three
      clear hb1 hP hQ H1 H3
      go_wp2_with fail
      refine (HA2.out _ H21.out H41.out).mono ?_
      rintro e w2 ⟨rfl, hb2⟩
      have HB2 := hid (bthen HB1.out hb2)
      clear hb2
      go_wp2
      go_ret
      exact ⟨rfl, HB2.out⟩
end Go.Proofs.YtgnbailcibhenaaDoor.LaI
