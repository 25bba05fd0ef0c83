/- What the laws on bands draw: coefficients of a block of a right size, of a signal or of any kind; a size and its coefficients. Each list is new memory. -/
import Derived.Test.YtodfkicmmcfkaaaBanN
import Derived.Test.YtodfkicmmcfkaaaDrwF
namespace Go.Proofs.Ytodfkicmmcfkaaa.BanD
open Go.ChangeShapes Go.WideShapes Go.ChangeAt Go.RowKit Go.Proofs.Ytodfkicmmcfkaaa.Num Go.Proofs.Ytodfkicmmcfkaaa.Sli Go.Proofs.Ytodfkicmmcfkaaa.App Go.Proofs.Ytodfkicmmcfkaaa.Samp Go.Proofs.Ytodfkicmmcfkaaa.Blk Go.Proofs.Ytodfkicmmcfkaaa.TurM Go.Proofs.Ytodfkicmmcfkaaa.HalM Go.Proofs.Ytodfkicmmcfkaaa.LapM Go.Proofs.Ytodfkicmmcfkaaa.LapN Go.Proofs.Ytodfkicmmcfkaaa.IntL Go.Proofs.Ytodfkicmmcfkaaa.IntA Go.Proofs.Ytodfkicmmcfkaaa.Src Go.Proofs.Ytodfkicmmcfkaaa.LapS Go.Proofs.Ytodfkicmmcfkaaa.LapT Go.Proofs.Ytodfkicmmcfkaaa.LapU Go.Proofs.Ytodfkicmmcfkaaa.DrwF Go.Proofs.Ytodfkicmmcfkaaa.BanM Go.Proofs.Ytodfkicmmcfkaaa.BanN
open Go.Proofs.Ytodfkicmmcfkaaa.Lists (src_grown grown_then)
open Go.Proofs.Ytodfkicmmcfkaaa.Lists (l1DrawList_calls)
open Go.Proofs.Ytodfkicmmcfkaaa.Samples (l1Samples_calls)
/-- What is kept while a lap is fed: the lap's block and its lists, the source. -/
structure LE (w0 w : World) (g : Nat) (a : Option Addr) (cap : Nat) (bs : List Int) (L : Nat) (s : Int) (u t : Value) (half rest : List Int) (at' : Nat) (W : World) : Prop where
  l : Blk W L #[.int .i64 s, u, t] 78
  tw : TW w.heap.size u t half rest W
  src : Src w0 W g a cap bs at'
  k : w.grownBy W (some g)
  ll : w.heap.size ≤ L
  lg : g < w.heap.size
section
variable {w0 w W W' : World} {g : Nat} {a : Option Addr} {cap : Nat} {bs : List Int} {L : Nat} {s : Int} {u t : Value} {half rest : List Int} {at' at2 : Nat}
theorem LE.next (h : LE w0 w g a cap bs L s u t half rest at' W) (hs : Src w0 W' g a cap bs at2) (hg : W.grownBy W' (some g)) : LE w0 w g a cap bs L s u t half rest at2 W' :=
  have h2 := h.ll; have h3 := h.lg
  ⟨h.l.kept hg (by simp; omega), h.tw.over h3 hg, hs, grown_same h.k hg, h2, h3⟩
theorem LE.later (h : LE w0 w g a cap bs L s u t half rest at' W) (hb : Below W.heap.size W W') : LE w0 w g a cap bs L s u t half rest at' W' :=
  h.next (src_grown (row := none) h.src (grown_below hb) (fun _ e => by cases e)) (grown_below hb)
theorem LE.put {u' t' : Value} {half' rest' : List Int} {base : Nat} {W1 : World} (h : LE w0 w g a cap bs L s u t half rest at' W1) (hl : L < base) (hw : w.heap.size ≤ base) (ht : TW base u' t' half' rest' W1) (s' : Int) (hw0 : w0.heap.size ≤ L) :
    LE w0 w g a cap bs L s' u' t' half' rest' at' (((W1.setCell ⟨L, 0, none⟩ (.int .i64 s')).setCell ⟨L, 1, none⟩ u').setCell ⟨L, 2, none⟩ t') := by
  have h2 := h.ll; have h3 := h.lg
  have hg := grown_set3 W1 L (.int .i64 s') u' t'
  refine ⟨((h.l.set 0 _).set 1 _).set 2 _, (ht.over hl hg).mono hw, src_grown h.src hg (fun j e => by cases e; omega), ?_, h2, h3⟩
  refine ⟨h.k.os, h.k.tape, h.k.output, Nat.le_trans h.k.size hg.size, fun j hj hne => ?_⟩
  rw [hg.block j (Nat.lt_of_lt_of_le hj h.k.size) (by simp; omega), h.k.block j hj hne]
end
theorem fed_co {s : Int} {half rest fr : List Int} (h : fdC s half rest fr = 0) : ((fdK s half rest fr).length : Int) = s ∧ (fdK s half rest fr).all coB = true := by
  obtain ⟨h1, h2, h3⟩ := fed_right h
  obtain ⟨h0, _⟩ := lf_ok h1
  have : 4 ≤ s ∧ s ≤ 16 := by rcases sz_cases h0 with rfl | rfl | rfl <;> decide
  refine ⟨by omega, (lim_all (M := 16777216) (by omega)).2 (h3.mono (by omega))⟩
theorem owi_some {base : Nat} {w : World} {v : Value} {ys : List Int} (h : OwI base w v ys) (hn : ys ≠ []) : ∃ g c, v = .slice (some ⟨g, 0, none⟩) ys.length c := by
  rcases h.2 with ⟨_, h0⟩ | ⟨g, cap, cur, hv, _⟩
  · exact absurd (List.length_eq_zero_iff.1 h0) hn
  · exact ⟨g, cap, hv⟩
set_option maxHeartbeats 4000000 in
theorem l13Draw_calls (w0 w : World) (g : Nat) (a : Option Addr) (cap : Nat) (bs : List Int) (at' : Nat) (s : Int) (h : Src w0 w g a cap bs at') (hat : at' ≤ 5000) (hz : szF s = 0) :
    Calls Try.prog 32 #[.pointer (some ⟨g, 0, none⟩), .int .i64 s] w fun e w' => ∃ gl cl ys at2, e = .returned (.slice (some ⟨gl, 0, none⟩) ys.length cl) ∧ OwI w.heap.size w' (.slice (some ⟨gl, 0, none⟩) ys.length cl) ys ∧ (ys.length : Int) = s ∧ ys.all coB = true ∧ at2 ≤ at' + 100 ∧ Src w0 w' g a cap bs at2 ∧ w.grownBy w' (some g) := by
  have hgw := src_lt h
  have hw0g : w0.heap.size ≤ g := h.1
  have HS0 := hid h
  have hsi : 4 ≤ s ∧ s ≤ 16 ∧ (s.toNat : Int) = s ∧ s.toNat ≤ 20 := by rcases sz_cases hz with rfl | rfl | rfl <;> decide
  have Hz := hid hz
  clear h hz
  go_enter Try.func32, Try.ntmps32
  go_wp2_with fail
  refine (l1Chance_calls w0 _ g a cap bs _ 3 HS0.out (by omega) (by omega) (by omega)).mono ?_
  rintro e w1 ⟨c, rfl, hs1, hg1⟩
  have HS1 := hid hs1
  have HG1 := hid hg1
  have hsz1 := hg1.size
  clear hs1 hg1 HS0
  cases c
  · go_wp2_with fail
    refine (l7New_calls s _ Hz.out).mono ?_
    rintro e w3 ⟨u, t, rfl, ht, hb3⟩
    have hfz : lfC s (List.replicate (hN s) 0) (List.replicate (hN s) 0) = 0 := lf_yes Hz.out (by simp) (by simp) (fun i => by rw [zero_get]; omega) (smL_zero _)
    obtain ⟨au, cu, rfl, -⟩ := ht.s.sl
    obtain ⟨av, cv, rfl, -⟩ := ht.d.sl
    rw [List.length_replicate] at *
    have HD3 : Hid (LE w0 w g a cap bs w3.heap.size s (.slice au (hN s) cu) (.slice av (hN s) cv) (List.replicate (hN s) 0) (List.replicate (hN s) 0) (at' + 1) (w3.alloc (.cells #[.int .i64 s, .slice au (hN s) cu, .slice av (hN s) cv] 78))) := by
      have ha := bmore (Below.refl w3.heap.size w3) (.cells #[.int .i64 s, .slice au (hN s) cu, .slice av (hN s) cv] 78)
      have hba := bthen hb3 ha
      have hs3 := hb3.size
      exact ⟨Blk.new _ _ _, (ht.later ha).mono (by omega), src_grown (row := none) HS1.out (grown_below hba) (fun _ e => by cases e), grown_same HG1.out (grown_below hba), by omega, hgw⟩
    have Hfz := hid hfz
    clear ht hb3 HS1 HG1 hfz
    have HSa := hid (fun W at2 (hs : Src w0 W g a cap bs at2) (q : at2 ≤ 10000) => l1Samples_calls w0 W g a cap bs at2 s.toNat hs q hsi.2.2.2)
    rw [hsi.2.2.1] at HSa
    generalize List.replicate (hN s) (0 : Int) = ha0 at *
    generalize hm : hN s = m at *
    clear hm
    go_wp2_with fail
    generalize (w3.alloc (.cells #[.int .i64 s, .slice au m cu, .slice av m cv] 78)) = w4 at *
    generalize w3.heap.size = L at *
    refine (HSa.out _ _ HD3.out.src (by omega)).mono ?_
    rintro e w6 ⟨gl, cl, ys, at3, rfl, ho6, hn6, hy6, hat3, hs6, hg6⟩
    have hfd : fdC s ha0 ha0 ys = 0 := by unfold fdC; rw [if_pos Hfz.out]; exact sm_yes Hz.out (by omega) (smL_of hy6)
    have ho6' : OwI w4.heap.size w6 (.slice (some ⟨gl, 0, none⟩) ys.length cl) ys := ho6
    have HO6 := hid ho6'
    have HD6 := hid (HD3.out.next hs6 hg6)
    have HF := hid hfd
    clear ho6 ho6' hn6 hy6 hs6 hg6 HD3 hfd Hfz
    go_wp2_with fail
    refine (l7Feed_calls L s _ _ _ ha0 ha0 ys _ HD6.out.l HD6.out.tw.s.sl HD6.out.tw.d.sl HO6.out.sl HO6.out.fits HF.out).mono ?_
    rintro e w7 ⟨u', t', k', rfl, ht7, hk7, hb7⟩
    have HD7 := hid (HD6.out.later hb7)
    have hL6 := HD6.out.l.lt
    have hw6 : w.heap.size ≤ w6.heap.size := HD6.out.k.size
    obtain ⟨a1, c1, rfl, -⟩ := ht7.s.sl
    obtain ⟨a2, c2, rfl, -⟩ := ht7.d.sl
    obtain ⟨l0, l1, l2, f0, f1, f2⟩ := HD7.out.l.three
    have hLl := HD7.out.ll
    have HD8 := hid (HD7.out.put hL6 hw6 ht7 s (by omega))
    have Hc8 := hid (fed_right HF.out).1
    clear ht7 hk7 hb7 HD6 HD7 HF HO6
    generalize ys.drop (hN s) = rD at *
    generalize fdH s ha0 ys = rF at *
    go_wp2_with fail
    refine (HSa.out _ _ HD8.out.src (by omega)).mono ?_
    rintro e w9 ⟨gm, cm, zs, at4, rfl, ho9, hn9, hy9, hat4, hs9, hg9⟩
    have hfd : fdC s rF rD zs = 0 := by unfold fdC; rw [if_pos Hc8.out]; exact sm_yes Hz.out (by omega) (smL_of hy9)
    have ho9' : OwI _ w9 (.slice (some ⟨gm, 0, none⟩) zs.length cm) zs := ho9
    have HO9 := hid ho9'
    have HD9 := hid (HD8.out.next hs9 hg9)
    have HF := hid hfd
    clear ho9 ho9' hn9 hy9 hs9 hg9 HD8 hfd Hc8 l0 l1 l2 f0 f1 f2
    go_wp2_with fail
    refine (l7Feed_calls L s _ _ _ rF rD zs _ HD9.out.l HD9.out.tw.s.sl HD9.out.tw.d.sl HO9.out.sl HO9.out.fits HF.out).mono ?_
    rintro e w10 ⟨u2, t2, k2, rfl, ht10, hk10, hb10⟩
    have HD10 := hid (HD9.out.later hb10)
    have hw9 : w.heap.size ≤ w9.heap.size := HD9.out.k.size
    obtain ⟨e1, e2⟩ := fed_co HF.out
    obtain ⟨gk, ck, hk⟩ := owi_some hk10 (by intro e; rw [e] at e1; simp at e1; omega)
    subst hk
    obtain ⟨a3, c3, rfl, -⟩ := ht10.s.sl
    obtain ⟨a4, c4, rfl, -⟩ := ht10.d.sl
    have HK := hid (hk10.mono hw9)
    have HE1 := hid e1
    have HE2 := hid e2
    clear ht10 hk10 hb10 HD9 HF HO9 e1 e2
    generalize fdK s rF rD zs = co at *
    generalize zs.drop (hN s) = z1 at *
    generalize fdH s rD zs = z2 at *
    have hal := bmore (Below.refl w10.heap.size w10) (.cells #[.int .i64 s, .slice a3 z2.length c3, .slice a4 z1.length c4] 78)
    have HF := hid (HD10.out.later hal)
    have HKF := hid (HK.out.later hal)
    clear hal HD10 HK
    go_wp2
    go_ret
    exact ⟨_, _, _, _, rfl, HKF.out, HE1.out, HE2.out, by omega, HF.out.src, HF.out.k⟩
  · have hal := bmore (Below.refl w1.heap.size w1) (.cells #[.int .i64 3, .int .i64 300, .int .i64 9000, .int .i64 100000] 2)
    have HP := hid (l1Pick_lit w0 w1 g a cap bs _ 4 2 [3, 300, 9000, 100000] #[.int .i64 3, .int .i64 300, .int .i64 9000, .int .i64 100000] HS1.out (by omega) rfl rfl (by omega) (by omega))
    have HGa := hid (grown_same HG1.out (grown_below (r := some g) hal))
    have hsz := hal.size
    clear hal
    go_wp2_with fail
    generalize w1.alloc (.cells #[.int .i64 3, .int .i64 300, .int .i64 9000, .int .i64 100000] 2) = w2 at *
    refine HP.out.mono ?_
    rintro e w3 ⟨r, rfl, hr, hs3, hg3⟩
    have HG3 := hid (grown_same HGa.out hg3)
    have HS3 := hid hs3
    have hr2 : 0 ≤ r ∧ r ≤ 100000 := by
      simp at hr
      rcases hr with rfl | rfl | rfl | rfl <;> decide
    have hsz3 := hg3.size
    have HDl := hid (l1DrawList_calls w0 w3 g a cap bs (at' + 1 + 1) s.toNat r hs3 (by omega) (by omega) hr2.1 (by omega))
    rw [hsi.2.2.1] at HDl
    clear hs3 hg3 hr HGa HP
    go_wp2_with fail
    refine HDl.out.mono ?_
    rintro e w4 ⟨gl, cl, ys, rfl, ho4, hn4, hy4, hs4, hg4⟩
    have ho4' : OwI w3.heap.size w4 (.slice (some ⟨gl, 0, none⟩) ys.length cl) ys := ho4
    have HO := hid (ho4'.mono (base' := w.heap.size) (by omega))
    have HE1 : Hid ((ys.length : Int) = s) := by show _ = _; omega
    have HE2 : Hid (ys.all coB = true) := by
      show _ = _
      rw [List.all_eq_true]
      intro x hx
      have := hy4 x hx
      exact inB_yes (by omega) (by omega)
    have HSf := hid hs4
    have HGf := hid (grown_same HG3.out hg4)
    clear ho4 ho4' hn4 hy4 hs4 hg4 HG3 HS3
    go_wp2
    go_ret
    exact ⟨_, _, _, _, rfl, HO.out, HE1.out, HE2.out, by omega, HSf.out, HGf.out⟩
set_option maxRecDepth 100000 in
set_option maxHeartbeats 4000000 in
theorem drawBandNorms_calls (a : Option Addr) (cap : Nat) (bs : List Int) (w0 : World) (hsl : Sl .u8 w0 (.slice a bs.length cap) bs) (hbd : ∀ x ∈ bs, 0 ≤ x ∧ x ≤ 255) (hlen : bs.length ≤ 1048576) :
    Calls Try.prog 9 #[.slice a bs.length cap] w0 fun e w' => ∃ (s : Int) (u : Value) (ys : List Int), e = .returned (.tuple #[.int .i64 s, u]) ∧ OwI w0.heap.size w' u ys ∧ ys.length ≤ 17 ∧ Below w0.heap.size w0 w' := by
  have H := hid (l1Source_calls a cap bs w0 w0 (Below.refl _ _) hsl hbd hlen)
  clear hsl hbd hlen
  go_enter Try.func9, Try.ntmps9
  go_wp2_with fail
  refine H.out.mono ?_
  rintro e w1 ⟨g, rfl, hs1, _⟩
  have Hs1 := hid hs1
  clear hs1 H
  go_wp2_with fail
  refine (Draws.l1BentSize_calls w0 _ g a cap bs _ Hs1.out (by omega)).mono ?_
  rintro e w2 ⟨s, rfl, _, hs2, _⟩
  have Hs2 := hid hs2
  have HS := hid (specSizeFault_calls s)
  clear hs2 Hs1
  by_cases hz : szF s = 0
  · rw [hz] at HS
    have Hz := hid hz
    clear hz
    go_wp2_with (go_at_call 16; refine (HS.out _).mono ?_; rintro e w' ⟨rfl, rfl⟩)
    have hsz2 := Hs2.out.2.1.size
    have hgw2 := src_lt Hs2.out
    refine (l13Draw_calls w0 _ g a cap bs _ s Hs2.out (by omega) Hz.out).mono ?_
    rintro e w4 ⟨gl, cl, ys, at2, rfl, hO, hyl, _, hat2, hs4, _⟩
    have hgl := hO.block gl rfl
    have HO4 := hid (App.Ow.mono hO hsz2)
    have Hs4 := hid hs4
    have hyb : 4 ≤ ys.length ∧ ys.length ≤ 16 := by rcases sz_cases Hz.out with rfl | rfl | rfl <;> omega
    clear hs4 hO Hs2 hyl HS
    go_wp2_with fail
    refine (l1Next_calls w0 _ g a cap bs _ 14 Hs4.out (by omega) (by omega) (by omega)).mono ?_
    rintro e w5 ⟨r, rfl, hr0, hr1, hs5, hg5⟩
    have HO5 := hid (Ow.keptNe HO4.out hg5 (fun j e => by cases e; simp [Value.ownBlock]; omega))
    have Hs5 := hid hs5
    clear hs5 hg5 Hs4 HO4
    have hr : r = 0 ∨ r = 1 ∨ r = 2 ∨ 3 ≤ r := by omega
    rcases hr with rfl | rfl | rfl | hr3
    · have HO6 := hid (HO5.out.alloc (.cells #[.int .i64 0] 2))
      have HB6 := hid (bmore Hs5.out.2.1 (.cells #[.int .i64 0] 2))
      have hsz := Hs5.out.2.1.size
      clear HO5 Hs5
      go_wp2_with (at_builtin; refine wpList_append_ints _ rfl _ _ rfl w0.heap.size _ ys rfl ?own _ [0] rfl (sl_lit _ _ _ _ _ _ rfl rfl) (by simp) ?c1 ?c2 ?_)
      case own => exact HO6.out
      case c1 => simp only [List.length_cons, List.length_nil]; omega
      case c2 => simp; omega
      intro g7 cap7 n7 w7 hn7 ho7 hg7 _
      have HB7 := hid (HB6.out.trans (below_of_grown hg7 (by simp; omega) (fun j e => (HO6.out.block j e).1)))
      have HO7 := hid ho7
      have HL : Hid ((ys ++ [0]).length ≤ 17) := by show _ ≤ _; rw [List.length_append]; simp; omega
      clear hn7 ho7 hg7 HO6 HB6
      go_wp2
      go_ret2
      exact ⟨_, _, _, rfl, HO7.out, HL.out, HB7.out⟩
    · go_wp2_with fail
      refine (l1Pick_lit w0 _ g a cap bs _ 2 2 [16777216, 16777217] _ Hs5.out (by omega) rfl rfl (by omega) (by omega)).mono ?_
      rintro e w6 ⟨x, rfl, _, hs6, hg6⟩
      have HO6 := hid (Ow.keptNe (HO5.out.alloc _) hg6 (fun j e => by cases e; simp [Value.ownBlock]; omega))
      have hset := HO6.out.set rfl 0 x
      obtain ⟨x1, x2⟩ := HO6.out.cellAt rfl 0 (by omega)
      have HSt := hid hset.1
      have HB6 := hid (hs6.2.1.trans (below_of_grown hset.2 hs6.2.1.size (fun j e => by cases e; omega)))
      have HL : Hid ((ys.set 0 x).length ≤ 17) := by show _ ≤ _; rw [List.length_set]; omega
      clear hset hs6 hg6 HO5 Hs5 HO6
      go_wp2
      go_ret2
      exact ⟨_, _, _, rfl, HSt.out, HL.out, HB6.out⟩
    · have HB5 := hid Hs5.out.2.1
      clear Hs5
      go_wp2_with fail
      go_loopw [37] (fun i wr => ∃ (k : Nat) (zs : List Int), i = .int .i64 (k : Int) ∧ k ≤ ys.length ∧ Hid (zs.length = ys.length) ∧ Hid (OwI w0.heap.size wr (.slice (some ⟨gl, 0, none⟩) ys.length cl) zs) ∧ Hid (Below w0.heap.size w0 wr)) (fun i _ => ys.length - (intOf i).toNat)
      case atStart => exact ⟨0, ys, rfl, Nat.zero_le _, rfl, HO5.out, HB5.out⟩
      case round =>
        obtain ⟨k, zs, rfl, hk, hzl, hOz, hBz⟩ := hrel
        clear HO5 HB5
        by_cases hlt : k < ys.length
        · have hset := hOz.out.set hzl.out.symm k 0
          obtain ⟨x1, x2⟩ := hOz.out.cellAt hzl.out.symm k (by rw [hzl.out]; exact hlt)
          have HSt := hid hset.1
          have hbs := hBz.out.size
          have HB6 := hid (hBz.out.trans (below_of_grown hset.2 hbs (fun j e => by cases e; omega)))
          have HL : Hid ((zs.set k 0).length = ys.length) := by show _ = _; rw [List.length_set]; exact hzl.out
          have hkI : (k : Int) < (ys.length : Int) := by omega
          clear hset hOz hBz
          generalize zs.getD k 0 = z at *
          go_wp2
          go_roundw
          case rel => exact ⟨k + 1, _, by go_num, by omega, HL, HSt, HB6⟩
          case measure => simp [intOf]; omega
        · obtain rfl : k = ys.length := by omega
          have HL : Hid (zs.length ≤ 17) := by show _ ≤ _; rw [hzl.out]; omega
          go_wp2
          go_ret2
          exact ⟨_, _, zs, rfl, by have := hOz.out; rwa [← hzl.out] at this, HL.out, hBz.out⟩
    · have b0 : (r == 0) = false := by simp; omega
      have b1 : (r == 1) = false := by simp; omega
      have b2 : (r == 2) = false := by simp; omega
      have HB5 := hid Hs5.out.2.1
      have HL : Hid (ys.length ≤ 17) := by show _ ≤ _; omega
      clear Hs5
      go_wp2
      go_ret2
      exact ⟨_, _, _, rfl, HO5.out, HL.out, HB5.out⟩
  · have b1 : (szF s != 0) = true := by simpa using hz
    have HB := hid Hs2.out.2.1
    clear hz Hs2
    generalize szF s = c at *
    go_wp2_with (go_at_call 16; refine (HS.out _).mono ?_; rintro e w' ⟨rfl, rfl⟩)
    go_ret2
    exact ⟨_, _, [], rfl, World.ownsRow_nil _ _ _ _, by simp, HB.out⟩
end Go.Proofs.Ytodfkicmmcfkaaa.BanD
