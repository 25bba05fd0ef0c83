/- FeedFrame and PlayBlock of the model: what they return at every argument of lists of at most 1048576 numbers. -/
import Derived.Test.YtobmngoodjmdaaaDoorLapV
import Derived.Test.YtobmngoodjmdaaaDoorBloS
namespace Go.Proofs.YtobmngoodjmdaaaDoor.LapW
open Go.ChangeShapes Go.WideShapes Go.ChangeAt Go.RowKit Go.Proofs.YtobmngoodjmdaaaDoor.Num Go.Proofs.YtobmngoodjmdaaaDoor.Sli Go.Proofs.YtobmngoodjmdaaaDoor.App Go.Proofs.YtobmngoodjmdaaaDoor.Div Go.Proofs.YtobmngoodjmdaaaDoor.Samp Go.Proofs.YtobmngoodjmdaaaDoor.SampF Go.Proofs.YtobmngoodjmdaaaDoor.Blk Go.Proofs.YtobmngoodjmdaaaDoor.TurM Go.Proofs.YtobmngoodjmdaaaDoor.HalM Go.Proofs.YtobmngoodjmdaaaDoor.LapM Go.Proofs.YtobmngoodjmdaaaDoor.LapN Go.Proofs.YtobmngoodjmdaaaDoor.IntL Go.Proofs.YtobmngoodjmdaaaDoor.IntA Go.Proofs.YtobmngoodjmdaaaDoor.LapS Go.Proofs.YtobmngoodjmdaaaDoor.LapT Go.Proofs.YtobmngoodjmdaaaDoor.LapU Go.Proofs.YtobmngoodjmdaaaDoor.LapV

/-- What FeedFrame tells beside its code. -/
def fdS (s : Int) (half rest fr : List Int) : Int := if fdC s half rest fr = 0 then s else 0
def fdU (s : Int) (half rest fr : List Int) : List Int := if fdC s half rest fr = 0 then fdH s rest fr else []
def fdV (s : Int) (half rest fr : List Int) : List Int := if fdC s half rest fr = 0 then fr.drop (hN s) else []
def fdW (s : Int) (half rest fr : List Int) : List Int := if fdC s half rest fr = 0 then fdK s half rest fr else []
/-- What PlayBlock tells beside its code. -/
def plS (s : Int) (head tail co : List Int) : Int := if plC s head tail co = 0 then s else 0
def plU (s : Int) (head tail co : List Int) : List Int := if plC s head tail co = 0 then plH s tail co else []
def plV (s : Int) (head tail co : List Int) : List Int := if plC s head tail co = 0 then (plB s co).drop (hN s) else []
def plW (s : Int) (head tail co : List Int) : List Int := if plC s head tail co = 0 then head ++ plT s tail co else []
/-- What is kept: the argument's block, the answer's block. -/
structure FS (w : World) (A : Array Value) (t : TypeId) (B : Array Value) (u : TypeId) (W : World) : Prop where
  l : Blk W w.heap.size A t
  r : Blk W (w.heap.size + 1) B u
  b : Below w.heap.size w W
theorem FS.new (w : World) (A : Array Value) (t : TypeId) (B : Array Value) (u : TypeId) : FS w A t B u ((w.alloc (.cells A t)).alloc (.cells B u)) := by
  refine ⟨(Blk.new w A t).alloc _, ?_, bmore (bmore (Below.refl _ _) _) _⟩
  have := Blk.new (w.alloc (.cells A t)) B u
  rwa [World.size_alloc] at this
theorem FS.later {w : World} {A : Array Value} {t : TypeId} {B : Array Value} {u : TypeId} {W W' : World} (h : FS w A t B u W) (hb : Below W.heap.size W W') : FS w A t B u W' := ⟨h.l.later hb, h.r.later hb, bthen h.b hb⟩
theorem below5 {w W : World} (h : Below w.heap.size w W) (x y z u v : Value) : Below w.heap.size w (((((W.setCell ⟨w.heap.size + 1, 0, none⟩ x).setCell ⟨w.heap.size + 1, 1, none⟩ y).setCell ⟨w.heap.size + 1, 2, none⟩ z).setCell ⟨w.heap.size + 1, 3, none⟩ u).setCell ⟨w.heap.size + 1, 4, none⟩ v) :=
  below_cell (below_cell (below_cell (below_cell (below_cell h (by omega) _ _) (by omega) _ _) (by omega) _ _) (by omega) _ _) (by omega) _ _
theorem _root_.Go.Proofs.YtobmngoodjmdaaaDoor.LapS.TW.set5 {base R : Nat} {u t : Value} {S D : List Int} {W : World} (h : TW base u t S D W) (hR : R < base) (x y z v a : Value) : TW R u t S D (((((W.setCell ⟨R, 0, none⟩ x).setCell ⟨R, 1, none⟩ y).setCell ⟨R, 2, none⟩ z).setCell ⟨R, 3, none⟩ v).setCell ⟨R, 4, none⟩ a) := (h.over hR (grown_set5 W R x y z v a)).mono (by omega)
set_option maxRecDepth 100000 in
set_option maxHeartbeats 4000000 in
theorem specFeedFrame_calls (s : Int) (vh vr vf : Value) (half rest fr : List Int) (w : World) (h1 : Sl .i64 w vh half) (h2 : Sl .i64 w vr rest) (h3 : Sl .i64 w vf fr) (hf : Fits vf) (m1 : half.length ≤ 1048576) (m2 : rest.length ≤ 1048576) :
    Calls Tryd.prog 18 #[.agg #[.int .i64 s, vh, vr], vf] w fun e w' => ∃ u t k, e = .returned (.agg #[.int .i64 (fdC s half rest fr), .int .i64 (fdS s half rest fr), u, t, k]) ∧ TW w.heap.size u t (fdU s half rest fr) (fdV s half rest fr) w' ∧ OwI w.heap.size w' k (fdW s half rest fr) ∧ Below w.heap.size w w' := by
  have HA := hid (fun W (q1 : Sl .i64 W vh half) (q2 : Sl .i64 W vr rest) => specLapFault_calls s vh vr half rest W q1 q2 m1 m2)
  have HB := hid (fun W (q : Sl .i64 W vf fr) => specSamplesFault_calls s vf fr W q)
  have HN : Hid (∀ (W : World) (c : Int), fdC s half rest fr = c → c ≠ 0 → Below w.heap.size w W → ∃ u t k, Ending.returned (.agg #[.int .i64 c, .int .i64 0, .slice none 0 0, .slice none 0 0, .slice none 0 0]) = .returned (.agg #[.int .i64 (fdC s half rest fr), .int .i64 (fdS s half rest fr), u, t, k]) ∧ TW w.heap.size u t (fdU s half rest fr) (fdV s half rest fr) W ∧ OwI w.heap.size W k (fdW s half rest fr) ∧ Below w.heap.size w W) := by
    intro W c e1 e2 hb
    subst e1
    refine ⟨_, _, _, by rw [show fdS s half rest fr = 0 from if_neg e2], ?_, ?_, hb⟩
    · rw [show fdU s half rest fr = [] from if_neg e2, show fdV s half rest fr = [] from if_neg e2]; exact TW.nil _ _
    · rw [show fdW s half rest fr = [] from if_neg e2]; exact ow_nil _ _
  have HK0 : Hid (FS w #[.int .i64 s, vh, vr] 29 #[.int .i64 0, .int .i64 0, .slice none 0 0, .slice none 0 0, .slice none 0 0] 41 _) := FS.new w _ _ _ _
  have H1 := hid (h1.later HK0.out.b)
  have H2 := hid (h2.later HK0.out.b)
  have H3 := hid (h3.later HK0.out.b)
  have Hf := hid hf
  obtain ⟨a1, c1, rfl, -⟩ := id h1
  obtain ⟨a2, c2, rfl, -⟩ := id h2
  obtain ⟨a3, c3, rfl, -⟩ := id h3
  clear h1 h2 h3 hf
  by_cases hl : lfC s half rest = 0
  · rw [hl] at HA
    by_cases hs : smF s fr = 0
    · have hc : fdC s half rest fr = 0 := by unfold fdC; rw [if_pos hl]; exact hs
      have HE : Hid (fdS s half rest fr = s ∧ fdU s half rest fr = fdH s rest fr ∧ fdV s half rest fr = fr.drop (hN s) ∧ fdW s half rest fr = fdK s half rest fr) := ⟨if_pos hc, if_pos hc, if_pos hc, if_pos hc⟩
      have HF := hid (fun W L v1 v2 v3 (hL : Blk W L #[.int .i64 s, v1, v2] 29) (q1 : Sl .i64 W v1 half) (q2 : Sl .i64 W v2 rest) (q3 : Sl .i64 W v3 fr) (q4 : Fits v3) => l7Feed_calls L s v1 v2 v3 half rest fr W hL q1 q2 q3 q4 hc)
      rw [hs] at HB
      rw [hc, HE.out.1, HE.out.2.1, HE.out.2.2.1, HE.out.2.2.2]
      clear hl hs hc HE HN
      generalize fdH s rest fr = rF at *
      generalize fdK s half rest fr = rK at *
      generalize fr.drop (hN s) = rD at *
      obtain ⟨t0, t1, t2, _⟩ := HK0.out.l.three
      go_enter Tryd.func18, Tryd.ntmps18
      go_wp2_with fail
      refine (HA.out _ H1.out H2.out).mono ?_
      rintro e w1 ⟨rfl, hb1⟩
      have HK1 := hid (HK0.out.later hb1)
      have H11 := hid (H1.out.later hb1)
      have H21 := hid (H2.out.later hb1)
      have H31 := hid (H3.out.later hb1)
      obtain ⟨t0, t1, t2, _⟩ := HK1.out.l.three
      clear hb1 HK0 H1 H2 H3 HA
      go_wp2_with fail
      refine (HB.out _ H31.out).mono ?_
      rintro e w2 ⟨rfl, hb2⟩
      have HK2 := hid (HK1.out.later hb2)
      have H12 := hid (H11.out.later hb2)
      have H22 := hid (H21.out.later hb2)
      have H32 := hid (H31.out.later hb2)
      clear hb2 HK1 H11 H21 H31 HB t0 t1 t2
      go_wp2_with fail
      refine (HF.out _ _ _ _ _ HK2.out.l H12.out H22.out H32.out Hf.out).mono ?_
      rintro e w3 ⟨u, t, k, rfl, ht, hk, hb3⟩
      have HK3 := hid (HK2.out.later hb3)
      obtain ⟨au, cu, rfl, -⟩ := ht.s.sl
      obtain ⟨at', ct, rfl, -⟩ := ht.d.sl
      obtain ⟨ak, ck, rfl, -⟩ := hk.sl
      have hz2 := HK2.out.r.lt
      have HT := hid ((ht.set5 (R := w.heap.size + 1) hz2 (.int .i64 0) (.int .i64 s) (.slice au rF.length cu) (.slice at' rD.length ct) (.slice ak rK.length ck)).later (bmore (Below.refl _ _) (.cells #[.int .i64 s, .slice au rF.length cu, .slice at' rD.length ct] 29)))
      have HO := hid (((hk.over hz2 (grown_set5 _ (w.heap.size + 1) (.int .i64 0) (.int .i64 s) (.slice au rF.length cu) (.slice at' rD.length ct) (.slice ak rK.length ck))).mono (Nat.le_of_lt hz2)).alloc (.cells #[.int .i64 s, .slice au rF.length cu, .slice at' rD.length ct] 29))
      have HBf := hid (bmore (below5 HK3.out.b (.int .i64 0) (.int .i64 s) (.slice au rF.length cu) (.slice at' rD.length ct) (.slice ak rK.length ck)) (.cells #[.int .i64 s, .slice au rF.length cu, .slice at' rD.length ct] 29))
      obtain ⟨r0, r1, r2, r3, r4, q0, q1, q2, q3, q4⟩ := HK3.out.r.five
      have hlt := HK3.out.r.lt
      clear ht hk hb3 HK2 H12 H22 H32 HF HK3
      go_wp2
      exact bodyPost_ret (v := .agg #[.int .i64 0, .int .i64 s, .slice au rF.length cu, .slice at' rD.length ct, .slice ak rK.length ck]) (by simp [results, Tryd.results18, go_sem, r0, r1, r2, r3, r4, hlt]) rfl ⟨_, _, _, rfl, HT.out.mono (by omega), HO.out.mono (by omega), HBf.out⟩
    · have hc : fdC s half rest fr = smF s fr := by unfold fdC; rw [if_pos hl]
      have HE := hid (fun W hb => HN.out W (smF s fr) hc hs hb)
      have hsb : (smF s fr != 0) = true := by simpa using hs
      clear hl hs hc HN
      generalize smF s fr = c at *
      obtain ⟨t0, t1, t2, _⟩ := HK0.out.l.three
      go_enter Tryd.func18, Tryd.ntmps18
      go_wp2_with fail
      refine (HA.out _ H1.out H2.out).mono ?_
      rintro e w1 ⟨rfl, hb1⟩
      have HK1 := hid (HK0.out.later hb1)
      have H31 := hid (H3.out.later hb1)
      obtain ⟨t0, t1, t2, _⟩ := HK1.out.l.three
      clear hb1 HK0 H1 H2 H3 HA
      go_wp2_with fail
      refine (HB.out _ H31.out).mono ?_
      rintro e w2 ⟨rfl, hb2⟩
      have HK2 := hid (HK1.out.later hb2)
      obtain ⟨r0, r1, r2, r3, r4, q0, q1, q2, q3, q4⟩ := HK2.out.r.five
      clear hb2 HK1 H31 HB t0 t1 t2
      go_wp2
      exact bodyPost_ret (v := .agg #[.int .i64 c, .int .i64 0, .slice none 0 0, .slice none 0 0, .slice none 0 0]) (by simp [results, Tryd.results18, go_sem, r0, r1, r2, r3, r4]) rfl (HE.out _ (below5 HK2.out.b _ _ _ _ _))
  · have hc : fdC s half rest fr = lfC s half rest := by unfold fdC; rw [if_neg hl]
    have HE := hid (fun W hb => HN.out W (lfC s half rest) hc hl hb)
    have hsb : (lfC s half rest != 0) = true := by simpa using hl
    clear hl hc HN HB
    generalize lfC s half rest = c at *
    obtain ⟨t0, t1, t2, _⟩ := HK0.out.l.three
    go_enter Tryd.func18, Tryd.ntmps18
    go_wp2_with fail
    refine (HA.out _ H1.out H2.out).mono ?_
    rintro e w1 ⟨rfl, hb1⟩
    have HK1 := hid (HK0.out.later hb1)
    obtain ⟨r0, r1, r2, r3, r4, q0, q1, q2, q3, q4⟩ := HK1.out.r.five
    clear hb1 HK0 H1 H2 H3 HA t0 t1 t2
    go_wp2
    exact bodyPost_ret (v := .agg #[.int .i64 c, .int .i64 0, .slice none 0 0, .slice none 0 0, .slice none 0 0]) (by simp [results, Tryd.results18, go_sem, r0, r1, r2, r3, r4]) rfl (HE.out _ (below5 HK1.out.b _ _ _ _ _))
set_option maxRecDepth 100000 in
set_option maxHeartbeats 4000000 in
theorem specPlayBlock_calls (s : Int) (vh vt vc : Value) (head tail co : List Int) (w : World) (h1 : Sl .i64 w vh head) (h2 : Sl .i64 w vt tail) (h3 : Sl .i64 w vc co) (m1 : head.length ≤ 1048576) (m2 : tail.length ≤ 1048576) (m3 : co.length ≤ 1048576) :
    Calls Tryd.prog 19 #[.agg #[.int .i64 s, vh, vt], vc] w fun e w' => ∃ u t k, e = .returned (.agg #[.int .i64 (plC s head tail co), .int .i64 (plS s head tail co), u, t, k]) ∧ TW w.heap.size u t (plU s head tail co) (plV s head tail co) w' ∧ OwI w.heap.size w' k (plW s head tail co) ∧ Below w.heap.size w w' := by
  have HA := hid (fun W (q1 : Sl .i64 W vh head) (q2 : Sl .i64 W vt tail) => specSynthFault_calls s vh vt head tail W q1 q2 m1 m2)
  have HB := hid (fun W (q : Sl .i64 W vc co) => BloS.l6Ask_calls vc co 16777216 W q m3 (by omega) (by omega))
  rw [show BloS.akC 16777216 co = gbC co from rfl] at HB
  have HN : Hid (∀ (W : World) (c : Int), plC s head tail co = c → c ≠ 0 → Below w.heap.size w W → ∃ u t k, Ending.returned (.agg #[.int .i64 c, .int .i64 0, .slice none 0 0, .slice none 0 0, .slice none 0 0]) = .returned (.agg #[.int .i64 (plC s head tail co), .int .i64 (plS s head tail co), u, t, k]) ∧ TW w.heap.size u t (plU s head tail co) (plV s head tail co) W ∧ OwI w.heap.size W k (plW s head tail co) ∧ Below w.heap.size w W) := by
    intro W c e1 e2 hb
    subst e1
    refine ⟨_, _, _, by rw [show plS s head tail co = 0 from if_neg e2], ?_, ?_, hb⟩
    · rw [show plU s head tail co = [] from if_neg e2, show plV s head tail co = [] from if_neg e2]; exact TW.nil _ _
    · rw [show plW s head tail co = [] from if_neg e2]; exact ow_nil _ _
  have HK0 : Hid (FS w #[.int .i64 s, vh, vt] 34 #[.int .i64 0, .int .i64 0, .slice none 0 0, .slice none 0 0, .slice none 0 0] 48 _) := FS.new w _ _ _ _
  have H1 := hid (h1.later HK0.out.b)
  have H2 := hid (h2.later HK0.out.b)
  have H3 := hid (h3.later HK0.out.b)
  obtain ⟨a1, c1, rfl, -⟩ := id h1
  obtain ⟨a2, c2, rfl, -⟩ := id h2
  obtain ⟨a3, c3, rfl, -⟩ := id h3
  clear h1 h2 h3
  by_cases hl : syC s head tail = 0
  · rw [hl] at HA
    by_cases hn : (co.length : Int) = s
    · by_cases hs : gbC co = 0
      · have hc : plC s head tail co = 0 := by unfold plC; rw [if_pos hl, if_pos hn]; exact hs
        have HE : Hid (plS s head tail co = s ∧ plU s head tail co = plH s tail co ∧ plV s head tail co = (plB s co).drop (hN s) ∧ plW s head tail co = head ++ plT s tail co) := ⟨if_pos hc, if_pos hc, if_pos hc, if_pos hc⟩
        have HF := hid (fun W L v1 v2 v3 (hL : Blk W L #[.int .i64 s, v1, v2] 34) (q1 : Sl .i64 W v1 head) (q2 : Sl .i64 W v2 tail) (q3 : Sl .i64 W v3 co) => l7Play_calls L s v1 v2 v3 head tail co W hL q1 q2 q3 hc)
        rw [hs] at HB
        rw [hc, HE.out.1, HE.out.2.1, HE.out.2.2.1, HE.out.2.2.2]
        have hnb : ((co.length : Int) != s) = false := by simpa using hn
        clear hl hs hc HE HN hn
        generalize plH s tail co = rF at *
        generalize head ++ plT s tail co = rK at *
        generalize (plB s co).drop (hN s) = rD at *
        obtain ⟨t0, t1, t2, _⟩ := HK0.out.l.three
        go_enter Tryd.func19, Tryd.ntmps19
        go_wp2_with fail
        refine (HA.out _ H1.out H2.out).mono ?_
        rintro e w1 ⟨rfl, hb1⟩
        have HK1 := hid (HK0.out.later hb1)
        have H11 := hid (H1.out.later hb1)
        have H21 := hid (H2.out.later hb1)
        have H31 := hid (H3.out.later hb1)
        obtain ⟨t0, t1, t2, _⟩ := HK1.out.l.three
        clear hb1 HK0 H1 H2 H3 HA
        go_wp2_with fail
        refine (HB.out _ H31.out).mono ?_
        rintro e w2 ⟨rfl, rfl⟩
        clear HB
        go_wp2_with fail
        refine (HF.out _ _ _ _ _ HK1.out.l H11.out H21.out H31.out).mono ?_
        rintro e w3 ⟨u, t, k, rfl, ht, hk, hb3⟩
        have HK3 := hid (HK1.out.later hb3)
        obtain ⟨au, cu, rfl, -⟩ := ht.s.sl
        obtain ⟨at', ct, rfl, -⟩ := ht.d.sl
        obtain ⟨ak, ck, rfl, -⟩ := hk.sl
        have hz2 := HK1.out.r.lt
        have HT := hid ((ht.set5 (R := w.heap.size + 1) hz2 (.int .i64 0) (.int .i64 s) (.slice au rF.length cu) (.slice at' rD.length ct) (.slice ak rK.length ck)).later (bmore (Below.refl _ _) (.cells #[.int .i64 s, .slice au rF.length cu, .slice at' rD.length ct] 34)))
        have HO := hid (((hk.over hz2 (grown_set5 _ (w.heap.size + 1) (.int .i64 0) (.int .i64 s) (.slice au rF.length cu) (.slice at' rD.length ct) (.slice ak rK.length ck))).mono (Nat.le_of_lt hz2)).alloc (.cells #[.int .i64 s, .slice au rF.length cu, .slice at' rD.length ct] 34))
        have HBf := hid (bmore (below5 HK3.out.b (.int .i64 0) (.int .i64 s) (.slice au rF.length cu) (.slice at' rD.length ct) (.slice ak rK.length ck)) (.cells #[.int .i64 s, .slice au rF.length cu, .slice at' rD.length ct] 34))
        obtain ⟨r0, r1, r2, r3, r4, q0, q1, q2, q3, q4⟩ := HK3.out.r.five
        have hlt := HK3.out.r.lt
        clear ht hk hb3 HK1 H11 H21 H31 HF HK3 t0 t1 t2
        go_wp2
        exact bodyPost_ret (v := .agg #[.int .i64 0, .int .i64 s, .slice au rF.length cu, .slice at' rD.length ct, .slice ak rK.length ck]) (by simp [results, Tryd.results19, go_sem, r0, r1, r2, r3, r4, hlt]) rfl ⟨_, _, _, rfl, HT.out.mono (by omega), HO.out.mono (by omega), HBf.out⟩
      · have hc : plC s head tail co = gbC co := by unfold plC; rw [if_pos hl, if_pos hn]
        have HE := hid (fun W hb => HN.out W (gbC co) hc hs hb)
        have hsb : (gbC co != 0) = true := by simpa using hs
        have hnb : ((co.length : Int) != s) = false := by simpa using hn
        clear hl hs hc HN hn
        generalize gbC co = c at *
        obtain ⟨t0, t1, t2, _⟩ := HK0.out.l.three
        go_enter Tryd.func19, Tryd.ntmps19
        go_wp2_with fail
        refine (HA.out _ H1.out H2.out).mono ?_
        rintro e w1 ⟨rfl, hb1⟩
        have HK1 := hid (HK0.out.later hb1)
        have H31 := hid (H3.out.later hb1)
        obtain ⟨t0, t1, t2, _⟩ := HK1.out.l.three
        clear hb1 HK0 H1 H2 H3 HA
        go_wp2_with fail
        refine (HB.out _ H31.out).mono ?_
        rintro e w2 ⟨rfl, rfl⟩
        obtain ⟨r0, r1, r2, r3, r4, q0, q1, q2, q3, q4⟩ := HK1.out.r.five
        clear H31 HB
        go_wp2
        exact bodyPost_ret (v := .agg #[.int .i64 c, .int .i64 0, .slice none 0 0, .slice none 0 0, .slice none 0 0]) (by simp [results, Tryd.results19, go_sem, r0, r1, r2, r3, r4]) rfl (HE.out _ (below5 HK1.out.b _ _ _ _ _))
    · have hc : plC s head tail co = 2 := by unfold plC; rw [if_pos hl, if_neg hn]
      have HE := hid (fun W hb => HN.out W 2 hc (by decide) hb)
      have hnb : ((co.length : Int) != s) = true := by simpa using hn
      clear hl hc HN hn HB
      obtain ⟨t0, t1, t2, _⟩ := HK0.out.l.three
      go_enter Tryd.func19, Tryd.ntmps19
      go_wp2_with fail
      refine (HA.out _ H1.out H2.out).mono ?_
      rintro e w1 ⟨rfl, hb1⟩
      have HK1 := hid (HK0.out.later hb1)
      obtain ⟨t0, t1, t2, _⟩ := HK1.out.l.three
      obtain ⟨r0, r1, r2, r3, r4, q0, q1, q2, q3, q4⟩ := HK1.out.r.five
      clear hb1 HK0 H1 H2 H3 HA
      go_wp2
      exact bodyPost_ret (v := .agg #[.int .i64 2, .int .i64 0, .slice none 0 0, .slice none 0 0, .slice none 0 0]) (by simp [results, Tryd.results19, go_sem, r0, r1, r2, r3, r4]) rfl (HE.out _ (below5 HK1.out.b _ _ _ _ _))
  · have hc : plC s head tail co = syC s head tail := by unfold plC; rw [if_neg hl]
    have HE := hid (fun W hb => HN.out W (syC s head tail) hc hl hb)
    have hsb : (syC s head tail != 0) = true := by simpa using hl
    clear hl hc HN HB
    generalize syC s head tail = c at *
    obtain ⟨t0, t1, t2, _⟩ := HK0.out.l.three
    go_enter Tryd.func19, Tryd.ntmps19
    go_wp2_with fail
    refine (HA.out _ H1.out H2.out).mono ?_
    rintro e w1 ⟨rfl, hb1⟩
    have HK1 := hid (HK0.out.later hb1)
    obtain ⟨r0, r1, r2, r3, r4, q0, q1, q2, q3, q4⟩ := HK1.out.r.five
    clear hb1 HK0 H1 H2 H3 HA t0 t1 t2
    go_wp2
    exact bodyPost_ret (v := .agg #[.int .i64 c, .int .i64 0, .slice none 0 0, .slice none 0 0, .slice none 0 0]) (by simp [results, Tryd.results19, go_sem, r0, r1, r2, r3, r4]) rfl (HE.out _ (below5 HK1.out.b _ _ _ _ _))
end Go.Proofs.YtobmngoodjmdaaaDoor.LapW
