/- The walk through FnShapes. Condition: the program's contracts of SearchPulses, NormOf, ShapeOf, ShapeBound, PulsesFault, IsWithin, wherever nothing that was there before has turned. -/
import Derived.Test.YtbbejjlgfekipaaSeaN
import Derived.Test.YtbbejjlgfekipaaSeaD
import Derived.Test.YtbbejjlgfekipaaSeaT
import Derived.Test.YtbbejjlgfekipaaShaS
import Derived.Test.YtbbejjlgfekipaaShaL
import Derived.Test.YtbbejjlgfekipaaPulT
import Derived.Test.YtbbejjlgfekipaaNorm
import Derived.Test.YtbbejjlgfekipaaLwAt
import Derived.Test.YtbbejjlgfekipaaBlk
import Derived.Test.YtbbejjlgfekipaaIntA
import Derived.Deep.RegionHeld3
import Derived.Deep.DrawnRows
import Derived.Deep.DeepCutAuto
namespace Go.Proofs.Ytbbejjlgfekipaa.SeaW
open Go.ChangeShapes Go.WideShapes Go.ChangeAt Go.RowKit Go.Proofs.Ytbbejjlgfekipaa.Num Go.Proofs.Ytbbejjlgfekipaa.Sli Go.Proofs.Ytbbejjlgfekipaa.Div Go.Proofs.Ytbbejjlgfekipaa.App Go.Proofs.Ytbbejjlgfekipaa.IntL Go.Proofs.Ytbbejjlgfekipaa.IntA Go.Proofs.Ytbbejjlgfekipaa.Blk Go.Proofs.Ytbbejjlgfekipaa.Norm Go.Proofs.Ytbbejjlgfekipaa.HalM Go.Proofs.Ytbbejjlgfekipaa.PulM Go.Proofs.Ytbbejjlgfekipaa.PulT Go.Proofs.Ytbbejjlgfekipaa.ShaM Go.Proofs.Ytbbejjlgfekipaa.ShaL Go.Proofs.Ytbbejjlgfekipaa.ShaS Go.Proofs.Ytbbejjlgfekipaa.BndM Go.Proofs.Ytbbejjlgfekipaa.SeaM Go.Proofs.Ytbbejjlgfekipaa.SeaN Go.Proofs.Ytbbejjlgfekipaa.SeaS Go.Proofs.Ytbbejjlgfekipaa.SeaT Go.Proofs.Ytbbejjlgfekipaa.SeaD Go.Proofs.Ytbbejjlgfekipaa.LwAt

theorem fieldI0 (c a : Value) (w : World) : (Instr.field 31 (.agg #[c, a]) 0).run Try.prog w = .ok c w := by kernel_rfl
theorem fieldI1 (c a : Value) (w : World) : (Instr.field 31 (.agg #[c, a]) 1).run Try.prog w = .ok a w := by kernel_rfl
theorem fieldL0 (c a : Value) (w : World) : (Instr.field 28 (.agg #[c, a]) 0).run Try.prog w = .ok c w := by kernel_rfl
attribute [local go_sem] fieldI0 fieldI1 fieldL0
/-- A target and its pulses. -/
structure SW (w : World) (u : Value) (ys : List Int) (P : Nat) (pc : Int) (up : Value) (ps : List Int) (W : World) : Prop where
  l : Sl .i64 W u ys
  p : Blk W P #[.int .i64 pc, up] 28
  pl : Sl .i64 W up ps
  b : Below w.heap.size w W
theorem SW.later {w W W' : World} {u : Value} {ys : List Int} {P : Nat} {pc : Int} {up : Value} {ps : List Int} (k : SW w u ys P pc up ps W) (hb : Below W.heap.size W W') : SW w u ys P pc up ps W' :=
  ⟨k.l.later hb, k.p.later hb, k.pl.later hb, bthen k.b hb⟩
/-- And its shape, and the bound. -/
structure SX (w : World) (u : Value) (ys : List Int) (P : Nat) (up : Value) (ps : List Int) (S : Nat) (sc : Int) (us : Value) (ss : List Int) (B : Nat) (bv : Int) (W : World) : Prop where
  k : SW w u ys P 0 up ps W
  s : Blk W S #[.int .i64 sc, us] 28
  sl : Sl .i64 W us ss
  c : Blk W B #[.int .i64 0, .int .i64 bv] 31
theorem SX.later {w W W' : World} {u : Value} {ys : List Int} {P : Nat} {up : Value} {ps : List Int} {S : Nat} {sc : Int} {us : Value} {ss : List Int} {B : Nat} {bv : Int} (h : SX w u ys P up ps S sc us ss B bv W) (hb : Below W.heap.size W W') : SX w u ys P up ps S sc us ss B bv W' :=
  ⟨h.k.later hb, h.s.later hb, h.sl.later hb, h.c.later hb⟩
/-- And the bounds. -/
structure SY (w : World) (u : Value) (ys : List Int) (P : Nat) (up : Value) (ps : List Int) (S : Nat) (us : Value) (ss : List Int) (B : Nat) (bv : Int) (ue : Value) (es : List Int) (W : World) : Prop where
  x : SX w u ys P up ps S 0 us ss B bv W
  e : Sl .i64 W ue es
theorem SY.later {w W W' : World} {u : Value} {ys : List Int} {P : Nat} {up : Value} {ps : List Int} {S : Nat} {us : Value} {ss : List Int} {B : Nat} {bv : Int} {ue : Value} {es : List Int} (h : SY w u ys P up ps S us ss B bv ue es W) (hb : Below W.heap.size W W') : SY w u ys P up ps S us ss B bv ue es W' :=
  ⟨h.x.later hb, h.e.later hb⟩
set_option maxRecDepth 100000 in
set_option maxHeartbeats 8000000 in
theorem fnShapes_calls (a0 : Option Addr) (cap : Nat) (bs : List Int) (w : World) (hsl : Sl .u8 w (.slice a0 bs.length cap) bs) (hbd : ∀ x ∈ bs, 0 ≤ x ∧ x ≤ 255)
    (hP : ∀ v xs k W, Below w.heap.size w W → Sl .i64 W v xs → Fits v → xs.length ≤ 1048576 → Calls Try.prog 9 #[v, .int .i64 k] W fun e w' => ∃ u, e = .returned (.agg #[.int .i64 (srC xs k), u]) ∧ OwI W.heap.size w' u (srL xs k) ∧ Below W.heap.size W w')
    (hN : ∀ v xs W, Below w.heap.size w W → Sl .i64 W v xs → Calls Try.prog 11 #[v] W fun e w' => e = .returned (.agg #[.int .i64 (nmC xs), .int .i64 (nmV xs)]) ∧ Below W.heap.size W w')
    (hS : ∀ v xs k g W, Below w.heap.size w W → Sl .i64 W v xs → Fits v → xs.length ≤ 1048576 → Calls Try.prog 13 #[v, .int .i64 k, .int .i64 g] W fun e w' => ∃ u, e = .returned (.agg #[.int .i64 (shC xs k g), u]) ∧ OwI W.heap.size w' u (shL xs k g) ∧ Below W.heap.size W w')
    (hB : ∀ n k g W, Below w.heap.size w W → Calls Try.prog 14 #[.int .i64 n, .int .i64 k, .int .i64 g] W fun e w' => e = .returned (.agg #[.int .i64 (sbC n k g), .int .i64 (sbV n k g)]) ∧ Below W.heap.size W w')
    (hF : ∀ v xs k W, Below w.heap.size w W → Sl .i64 W v xs → Fits v → xs.length ≤ 1048576 → Calls Try.prog 17 #[v, .int .i64 k] W fun e w' => e = .returned (.int .i64 (pfC xs k)) ∧ Below W.heap.size W w')
    (hW : ∀ v1 v2 v3 a b c W, Below w.heap.size w W → Sl .i64 W v1 a → Sl .i64 W v2 b → Sl .i64 W v3 c → a.length ≤ 1048576 → b.length ≤ 1048576 → c.length ≤ 1048576 → Calls Try.prog 18 #[v1, v2, v3] W fun e w' => e = .returned (.bool (wiB a b c)) ∧ Below W.heap.size W w') :
    Calls Try.prog 3 #[.slice a0 bs.length cap] w fun e w' => e = .returned (.bool true) ∧ Below w.heap.size w w' := by
  by_cases hbig : 1048576 < bs.length
  · have hb' : (1048576 : Int) < bs.length := by omega
    clear hsl hbd hP hN hS hB hF hW
    go_enter Try.func3, Try.ntmps3
    go_wp2
    go_ret
    exact ⟨rfl, Below.refl _ _⟩
  · have hb' : (bs.length : Int) ≤ 1048576 := by omega
    have H1 := hid (drawSearchPulses_calls a0 cap bs w hsl hbd (by omega))
    have H2 := hid (fun W (hb : Below w.heap.size w W) => lwAt_calls a0 cap bs W (hsl.later hb) hbd (by omega) 2 400 (by omega) (by omega) (by omega))
    have H3 := hid (fun W (hb : Below w.heap.size w W) => lwAt_calls a0 cap bs W (hsl.later hb) hbd (by omega) 3 2 (by omega) (by omega) (by omega))
    have HP := hid hP
    have HN := hid hN
    have HS := hid hS
    have HB := hid hB
    have HF := hid hF
    have HW := hid hW
    clear hsl hbd hP hN hS hB hF hW
    go_enter Try.func3, Try.ntmps3
    go_wp2_with (first | (go_at_call 7; go_in) | fail)
    refine H1.out.mono ?_
    rintro e w1 ⟨u, ys, k, rfl, hO1, hyl, hb1⟩
    obtain ⟨au, cu, rfl, _⟩ := hO1.sl
    have HB1 := hid hb1
    have HS1 := hid hO1.sl
    have Hfit := hid hO1.fits
    have hylI : (ys.length : Int) ≤ 7 := by omega
    clear hb1 H1 hO1
    go_wp2_with fail
    refine (HP.out _ ys k _ HB1.out HS1.out Hfit.out (by omega)).mono ?_
    rintro e w2 ⟨up, rfl, hO2, hb2⟩
    obtain ⟨ap, cp, rfl, _⟩ := hO2.sl
    have Hfp := hid hO2.fits
    have hbq := bmore hb2 (.cells #[.int .i64 (srC ys k), .slice ap (srL ys k).length cp] 28)
    have HK : Hid (SW w (.slice au ys.length cu) ys w2.heap.size (srC ys k) (.slice ap (srL ys k).length cp) (srL ys k) (w2.alloc (.cells #[.int .i64 (srC ys k), .slice ap (srL ys k).length cp] 28))) :=
      ⟨HS1.out.later hbq, Blk.new w2 _ _, hO2.sl.later (bmore (Below.refl _ _) _), bthen HB1.out hbq⟩
    clear hb2 hbq HB1 HS1 hO2 HP Hfit
    go_wp2_with fail
    generalize w2.alloc (.cells #[.int .i64 (srC ys k), .slice ap (srL ys k).length cp] 28) = w3 at *
    generalize w2.heap.size = P at *
    have HSp := hid (fun W (h : Sl .i64 W (.slice au ys.length cu) ys) => specSearchPulses_calls _ ys k W h (by omega))
    have hpl := sr_len ys k
    have HM := hid (fun (g gap : Int) (h : srC ys k = 0) (hg : -gap ≤ g - nrm ys ∧ g - nrm ys ≤ gap) (hgap : 0 ≤ gap ∧ gap ≤ 400) (hs : shC (srL ys k) k g = 0) => shape_ok h hg hgap hs)
    have HQ := hid (fun (h : srC ys k = 0) => sr_fault h)
    have HY := hid (fun (h : srC ys k = 0) => sea_facts h)
    generalize srL ys k = ps at *
    generalize srC ys k = pc at *
    have hKd0 := HK.out.later (Below.refl _ _).drew
    refine wp_region_noPanic ?_
    refine wp_region_held_drew (S := fun W => SW w (.slice au ys.length cu) ys P pc (.slice ap ps.length cp) ps W) (by kernel_rfl) ?_ (fun hHeld => ?_)
    · first | exact hK2 | exact hHeld | exact hKd0
    (refine wpAnyH_take (i := 0) (v := ?_) rfl (by kernel_rfl) (by kernel_rfl) (by kernel_rfl) (fun _ _ _ h => h) (Or.inl ⟨by rfl, ?_⟩) hHeld ?_; rotate_left; (intro w hSw; (obtain ⟨m0, m1, _⟩ := hSw.p.two; clear hSw); (go_simp <;> with_reducible rfl)); simp only [List.getElem_toArray, List.getElem_cons_zero, Act.put, List.setIfInBounds_toArray, List.set_cons_zero, List.set_cons_succ])
    (refine wpAnyH_take (i := 1) (v := ?_) rfl (by kernel_rfl) (by kernel_rfl) (by kernel_rfl) (fun _ _ _ h => h) (Or.inl ⟨by rfl, ?_⟩) hHeld ?_; rotate_left; (intro w hSw; (obtain ⟨m0, m1, _⟩ := hSw.p.two; clear hSw); (go_simp <;> with_reducible rfl)); simp only [List.getElem_toArray, List.getElem_cons_zero, List.getElem_cons_succ, Act.put, List.setIfInBounds_toArray, List.set_cons_zero, List.set_cons_succ])
    (refine wpAnyH_take (i := 2) (v := ?_) rfl (by kernel_rfl) (by kernel_rfl) (by kernel_rfl) (fun _ _ _ h => h) (Or.inl ⟨by rfl, ?_⟩) hHeld ?_; rotate_left; (intro w hSw; (obtain ⟨m0, m1, _⟩ := hSw.p.two; clear hSw); (go_simp <;> with_reducible rfl)); simp only [List.getElem_toArray, List.getElem_cons_zero, List.getElem_cons_succ, Act.put, List.setIfInBounds_toArray, List.set_cons_zero, List.set_cons_succ])
    (refine wpAnyH_take (i := 3) (v := ?_) rfl (by kernel_rfl) (by kernel_rfl) (by kernel_rfl) (fun _ _ _ h => h) (Or.inl ⟨by rfl, ?_⟩) hHeld ?_; rotate_left; (intro w hSw; (obtain ⟨m0, m1, _⟩ := hSw.p.two; clear hSw); (go_simp <;> with_reducible rfl)); simp only [List.getElem_toArray, List.getElem_cons_zero, List.getElem_cons_succ, Act.put, List.setIfInBounds_toArray, List.set_cons_zero, List.set_cons_succ])
    (refine wpAnyH_ready (rs := [4]) (by kernel_rfl) (by simp) ?_; refine AllReadyH.cons rfl (fun K hK => ?_) AllReadyH.nil; go_simp; (refine (HSp.out _ hHeld.l).mono ?_; rintro e w9 ⟨u9, rfl, ho9, hb9⟩; obtain ⟨a9, c9, rfl, _⟩ := ho9.sl; have hK2 := hHeld.later hb9); refine hK.out _ _ ?_ (fun hHeld => ?_); (first | exact hK2 | exact hHeld | exact hKd0); clear hK K; try dsimp only)
    (refine wpAnyH_take (i := 5) (v := ?_) rfl (by kernel_rfl) (by kernel_rfl) (by kernel_rfl) (fun _ _ _ h => h) (Or.inl ⟨by rfl, ?_⟩) hHeld ?_; rotate_left; (intro w hSw; (obtain ⟨m0, m1, _⟩ := hSw.p.two; clear hSw); (go_simp <;> with_reducible rfl)); simp only [List.getElem_toArray, List.getElem_cons_zero, List.getElem_cons_succ, Act.put, List.setIfInBounds_toArray, List.set_cons_zero, List.set_cons_succ])
    (refine wpAnyH_take (i := 6) (v := ?_) rfl (by kernel_rfl) (by kernel_rfl) (by kernel_rfl) (fun _ _ _ h => h) (Or.inl ⟨by rfl, ?_⟩) hHeld ?_; rotate_left; (intro w hSw; (obtain ⟨m0, m1, _⟩ := hSw.p.two; clear hSw); (go_simp <;> with_reducible rfl)); simp only [List.getElem_toArray, List.getElem_cons_zero, List.getElem_cons_succ, Act.put, List.setIfInBounds_toArray, List.set_cons_zero, List.set_cons_succ])
    refine wpAnyH_done (by kernel_rfl) ?_ _
    refine NoPanic.normal ?_
    have HK9 := hid hHeld
    clear hHeld HK hKd0 HSp
    obtain ⟨m0, m1, _⟩ := HK9.out.p.two
    by_cases hz : pc = 0
    · subst hz
      obtain ⟨f1, f2, f3, f4, f5, f6, f7, -⟩ := HY.out rfl
      have hq := HQ.out rfl
      have HNn := hid (fun W (hb : Below w.heap.size w W) (h : Sl .i64 W (.slice au ys.length cu) ys) => HN.out _ ys W hb h)
      rw [f1] at HNn
      have HFf := hid (fun W (hb : Below w.heap.size w W) (h : Sl .i64 W (.slice ap ps.length cp) ps) => HF.out _ ps k W hb h Hfp.out (by omega))
      rw [hq] at HFf
      have HMm := hid (fun (g gap : Int) => HM.out g gap rfl)
      have HSs := hid (fun (g : Int) W (hb : Below w.heap.size w W) (h : Sl .i64 W (.slice ap ps.length cp) ps) => HS.out _ ps k g W hb h Hfp.out (by omega))
      have HTs := hid (fun (g : Int) W (h : Sl .i64 W (.slice ap ps.length cp) ps) => specShapeOf_calls _ ps k g W h (by omega))
      have HLs := hid (fun (g : Int) => sh_len ps k g)
      clear f1 hq HM HQ HY HN HF HS Hfp
      generalize nrm ys = n at *
      go_wp2_with fail
      refine (HNn.out _ HK9.out.b HK9.out.l).mono ?_
      rintro e w4 ⟨rfl, hb4⟩
      have HK4 := hid (HK9.out.later hb4)
      clear hb4 HK9 HNn m0 m1
      go_wp2_with fail
      refine (H2.out _ HK4.out.b).mono ?_
      rintro e w5 ⟨gap, rfl, hg0, hg1, hb5⟩
      have hg2 : gap ≤ 400 := by omega
      have HK5 := hid (HK4.out.later hb5)
      clear hb5 HK4 H2 hg1
      have kp : IntKind.i64.wrap (n + gap) = n + gap := wrapk_of (by omega) (by omega)
      have km : IntKind.i64.wrap (n - gap) = n - gap := wrapk_of (by omega) (by omega)
      obtain ⟨b0, b1⟩ := sb_ok ⟨f2, f3⟩ ⟨hg0, hg2⟩ ⟨f4, f5⟩
      have HBb := hid (fun W (hb : Below w.heap.size w W) => HB.out n k gap W hb)
      have HTb := hid (fun W => specShapeBound_calls n k gap W)
      rw [b0] at HBb HTb
      clear b0 b1 HB
      have HMn := hid (fun (g : Int) => HMm.out g gap)
      clear HMm
      generalize sbV n k gap = bv at *
      go_upto_region 12 with fail
      go_cut [48] from 41 to 48 (fun t wc => ∃ b : Bool, t = .bool b ∧ (b = true → gap ≤ n) ∧ Hid (SW w (.slice au ys.length cu) ys P 0 (.slice ap ps.length cp) ps wc))
      case first =>
        go_wp2_with fail
        refine (H3.out _ HK5.out.b).mono ?_
        rintro e w6 ⟨o, rfl, ho0, ho1, hb6⟩
        have HK6 := hid (HK5.out.later hb6)
        clear hb6 HK5 H3
        have ho : o = 0 ∨ o = 1 := by omega
        clear ho0 ho1
        rcases ho with rfl | rfl
        · by_cases hle : gap ≤ n
          · have hd : decide (gap ≤ n) = true := decide_eq_true hle
            go_wp2_with fail
            go_meet
            case rel => exact ⟨true, rfl, fun _ => hle, HK6.out⟩
          · have hd : decide (gap ≤ n) = false := decide_eq_false hle
            go_wp2_with fail
            go_meet
            case rel => exact ⟨false, rfl, fun q => absurd q (by decide), HK6.out⟩
        · go_wp2_with fail
          go_meet
          case rel => exact ⟨false, rfl, fun q => absurd q (by decide), HK6.out⟩
      case rest =>
      obtain ⟨b, rfl, hbl, HK7⟩ := hcut
      clear HK5 H3
      go_upto_if 48 with fail
      go_cut [8] from 48 to 51 (fun t wc => ∃ g : Int, t = .int .i64 g ∧ (-gap ≤ g - n ∧ g - n ≤ gap) ∧ Hid (SW w (.slice au ys.length cu) ys P 0 (.slice ap ps.length cp) ps wc))
      case first =>
        cases b
        · go_wp2_with fail
          go_meet
          case rel => exact ⟨n + gap, rfl, by omega, HK7.out⟩
        · go_wp2_with fail
          go_meet
          case rel => exact ⟨n - gap, rfl, by omega, HK7.out⟩
      case rest =>
      obtain ⟨g, rfl, hgg, HK8⟩ := hcut
      clear HK7 hbl b kp km
      have HMg := hid (fun hs => HMn.out g hgg ⟨hg0, hg2⟩ hs)
      have HSg := hid (HSs.out g)
      have HTg := hid (HTs.out g)
      have hsl := HLs.out g
      clear HMn HSs HTs HLs
      obtain ⟨m0, m1, _⟩ := HK8.out.p.two
      go_wp2_with fail
      refine (HSg.out _ HK8.out.b HK8.out.pl).mono ?_
      rintro e w7 ⟨us, rfl, hO7, hb7⟩
      obtain ⟨a7, cs, rfl, _⟩ := hO7.sl
      have hbq := bmore hb7 (.cells #[.int .i64 (shC ps k g), .slice a7 (shL ps k g).length cs] 28)
      have HKa := hid (HK8.out.later hbq)
      have HKs := hid (Blk.new w7 #[.int .i64 (shC ps k g), .slice a7 (shL ps k g).length cs] 28)
      have HSl := hid (hO7.sl.later (bmore (Below.refl _ _) (.cells #[.int .i64 (shC ps k g), .slice a7 (shL ps k g).length cs] 28)))
      clear hb7 hbq HK8 hO7 HSg m0 m1
      go_wp2_with fail
      refine (HBb.out _ HKa.out.b).mono ?_
      rintro e w8 ⟨rfl, hb8⟩
      have hbq := bmore hb8 (.cells #[.int .i64 0, .int .i64 bv] 31)
      have HX : Hid (SX w (.slice au ys.length cu) ys P (.slice ap ps.length cp) ps w7.heap.size (shC ps k g) (.slice a7 (shL ps k g).length cs) (shL ps k g) w8.heap.size bv (w8.alloc (.cells #[.int .i64 0, .int .i64 bv] 31))) :=
        ⟨HKa.out.later hbq, HKs.out.later hbq, HSl.out.later hbq, Blk.new w8 _ _⟩
      clear hb8 hbq HKa HKs HSl HBb
      go_upto_region 16 with fail
      generalize w8.alloc (.cells #[.int .i64 0, .int .i64 bv] 31) = w9 at *
      generalize w7.heap.size = S at *
      generalize w8.heap.size = B at *
      generalize shL ps k g = ss at *
      generalize shC ps k g = sc at *
      obtain ⟨m0, m1, _⟩ := HX.out.s.two
      obtain ⟨n0, n1, _⟩ := HX.out.c.two
      by_cases hs : sc = 0
      · subst hs
        have hw := HMg.out rfl
        have HWw := hid (fun v3 W (hb : Below w.heap.size w W) (q1 : Sl .i64 W (.slice a7 ss.length cs) ss) (q2 : Sl .i64 W (.slice au ys.length cu) ys) (q3 : Sl .i64 W v3 (List.replicate ys.length bv)) => HW.out _ _ v3 ss ys _ W hb q1 q2 q3 (by omega) (by omega) (by rw [List.length_replicate]; omega))
        rw [hw] at HWw
        clear hw HMg HW HTg
        go_wp2_with fail
        go_loopw [11, 12] (fun v i wq => ∃ (j gg cg : Nat), v = .slice (some ⟨gg, 0, none⟩) j cg ∧ i = .int .i64 (j : Int) ∧ j ≤ ys.length ∧ Hid (OwI w9.heap.size wq (.slice (some ⟨gg, 0, none⟩) j cg) (List.replicate j bv)) ∧ Hid (Below w9.heap.size w9 wq)) (fun _ i _ => ys.length - (intOf i).toNat)
        case atStart => exact ⟨0, _, _, rfl, rfl, Nat.zero_le _, ow_new _ _ _ w9 (Nat.le_refl _), bmore (Below.refl _ _) _⟩
        case round =>
          obtain ⟨j, gg, cg, rfl, rfl, hj, HO, HBq⟩ := hrel
          have HXq := hid (HX.out.later HBq.out)
          clear m0 m1 n0 n1
          obtain ⟨m0, m1, _⟩ := HXq.out.s.two
          obtain ⟨n0, n1, _⟩ := HXq.out.c.two
          by_cases hlt : j < ys.length
          · have hjI : (j : Int) < (ys.length : Int) := by omega
            have HO1 := hid (HO.out.later (bmore (Below.refl _ _) (.cells #[.int .i64 bv] 2)))
            have HB7 := hid (bmore HBq.out (.cells #[.int .i64 bv] 2))
            have hz7 := HBq.out.size
            have Hrl : Hid ((List.replicate j bv).length = j) := List.length_replicate
            clear HO HBq HXq
            go_wp2_with (at_builtin; refine wpList_append_ints _ rfl _ _ rfl w9.heap.size _ (List.replicate j bv) rfl HO1.out _ [bv] rfl (sl_lit _ _ _ _ _ _ rfl rfl) (by simp) ?c1 ?c2 ?_)
            case c1 => rw [Hrl.out]; simp only [List.length_singleton]; omega
            case c2 => simp; omega
            intro g5 cap5 n5 w10 hn5 ho5 hg5 hat5
            have Hn5 : Hid (n5 = j + 1) := by show _ = _; have := Hrl.out; first | omega | (simp only [List.length_append, List.length_singleton] at hn5; omega)
            have HB8 := hid (HB7.out.trans (below_of_grown hg5 (by simp; omega) (fun i e => (HO1.out.block i e).1)))
            have HO8 := hid ho5
            rw [Hn5.out, ← List.replicate_succ'] at HO8
            rw [Hn5.out]
            clear hn5 ho5 hg5 hat5 HO1 HB7 Hn5 Hrl m0 m1 n0 n1
            go_wp2
            go_roundw
            case rel => exact ⟨j + 1, g5, cap5, rfl, by go_num, by omega, HO8.out, HB8.out⟩
            case measure => simp [intOf]; omega
          · obtain rfl : j = ys.length := by omega
            have HE : Hid (SY w (.slice au ys.length cu) ys P (.slice ap ps.length cp) ps S (.slice a7 ss.length cs) ss B bv (.slice (some ⟨gg, 0, none⟩) ys.length cg) (List.replicate ys.length bv) wr) := ⟨HXq.out, HO.out.sl⟩
            have HWe := hid (HWw.out (.slice (some ⟨gg, 0, none⟩) ys.length cg))
            clear HX HXq HO HBq HWw
            generalize List.replicate ys.length bv = es at *
            go_upto_region 23 with fail
            clear m0 m1 n0 n1
            have hKd0 := HE.out.later (Below.refl _ _).drew
            refine wp_region_noPanic ?_
            refine wp_region_held_drew (S := fun W => SY w (.slice au ys.length cu) ys P (.slice ap ps.length cp) ps S (.slice a7 ss.length cs) ss B bv (.slice (some ⟨gg, 0, none⟩) ys.length cg) es W) (by kernel_rfl) ?_ (fun hHeld => ?_)
            · first | exact hK2 | exact hHeld | exact hKd0
            (refine wpAnyH_take (i := 0) (v := ?_) rfl (by kernel_rfl) (by kernel_rfl) (by kernel_rfl) (fun _ _ _ h => h) (Or.inl ⟨by rfl, ?_⟩) hHeld ?_; rotate_left; (intro w hSw; (obtain ⟨m0, m1, _⟩ := hSw.x.k.p.two; obtain ⟨n0, n1, _⟩ := hSw.x.s.two; obtain ⟨o0, o1, _⟩ := hSw.x.c.two; clear hSw); (go_simp <;> with_reducible rfl)); simp only [List.getElem_toArray, List.getElem_cons_zero, Act.put, List.setIfInBounds_toArray, List.set_cons_zero, List.set_cons_succ])
            (refine wpAnyH_take (i := 1) (v := ?_) rfl (by kernel_rfl) (by kernel_rfl) (by kernel_rfl) (fun _ _ _ h => h) (Or.inl ⟨by rfl, ?_⟩) hHeld ?_; rotate_left; (intro w hSw; (obtain ⟨m0, m1, _⟩ := hSw.x.k.p.two; obtain ⟨n0, n1, _⟩ := hSw.x.s.two; obtain ⟨o0, o1, _⟩ := hSw.x.c.two; clear hSw); (go_simp <;> with_reducible rfl)); simp only [List.getElem_toArray, List.getElem_cons_zero, List.getElem_cons_succ, Act.put, List.setIfInBounds_toArray, List.set_cons_zero, List.set_cons_succ])
            (refine wpAnyH_take (i := 2) (v := ?_) rfl (by kernel_rfl) (by kernel_rfl) (by kernel_rfl) (fun _ _ _ h => h) (Or.inl ⟨by rfl, ?_⟩) hHeld ?_; rotate_left; (intro w hSw; (obtain ⟨m0, m1, _⟩ := hSw.x.k.p.two; obtain ⟨n0, n1, _⟩ := hSw.x.s.two; obtain ⟨o0, o1, _⟩ := hSw.x.c.two; clear hSw); (go_simp <;> with_reducible rfl)); simp only [List.getElem_toArray, List.getElem_cons_zero, List.getElem_cons_succ, Act.put, List.setIfInBounds_toArray, List.set_cons_zero, List.set_cons_succ])
            (refine wpAnyH_ready (rs := [3]) (by kernel_rfl) (by simp) ?_; refine AllReadyH.cons rfl (fun K hK => ?_) AllReadyH.nil; go_simp; (refine (HFf.out _ hHeld.x.k.b hHeld.x.k.pl).mono ?_; rintro e w11 ⟨rfl, hb11⟩; have hK2 := hHeld.later hb11); refine hK.out _ _ ?_ (fun hHeld => ?_); (first | exact hK2 | exact hHeld | exact hKd0); clear hK K; try dsimp only)
            (refine wpAnyH_take (i := 4) (v := ?_) rfl (by kernel_rfl) (by kernel_rfl) (by kernel_rfl) (fun _ _ _ h => h) (Or.inl ⟨by rfl, ?_⟩) hHeld ?_; rotate_left; (intro w hSw; (obtain ⟨m0, m1, _⟩ := hSw.x.k.p.two; obtain ⟨n0, n1, _⟩ := hSw.x.s.two; obtain ⟨o0, o1, _⟩ := hSw.x.c.two; clear hSw); (go_simp <;> with_reducible rfl)); simp only [List.getElem_toArray, List.getElem_cons_zero, List.getElem_cons_succ, Act.put, List.setIfInBounds_toArray, List.set_cons_zero, List.set_cons_succ])
            (refine wpAnyH_take (i := 5) (v := ?_) rfl (by kernel_rfl) (by kernel_rfl) (by kernel_rfl) (fun _ _ _ h => h) (Or.inl ⟨by rfl, ?_⟩) hHeld ?_; rotate_left; (intro w hSw; (obtain ⟨m0, m1, _⟩ := hSw.x.k.p.two; obtain ⟨n0, n1, _⟩ := hSw.x.s.two; obtain ⟨o0, o1, _⟩ := hSw.x.c.two; clear hSw); (go_simp <;> with_reducible rfl)); simp only [List.getElem_toArray, List.getElem_cons_zero, List.getElem_cons_succ, Act.put, List.setIfInBounds_toArray, List.set_cons_zero, List.set_cons_succ])
            first | (refine wpAnyH_take (i := 6) (v := ?_) rfl (by kernel_rfl) (by kernel_rfl) (by kernel_rfl) (fun _ _ _ h => h) (Or.inl ⟨by rfl, ?_⟩) hHeld ?_; rotate_left; (intro w hSw; (obtain ⟨m0, m1, _⟩ := hSw.x.k.p.two; obtain ⟨n0, n1, _⟩ := hSw.x.s.two; obtain ⟨o0, o1, _⟩ := hSw.x.c.two; clear hSw); (go_simp <;> with_reducible rfl)); simp only [List.getElem_toArray, List.getElem_cons_zero, List.getElem_cons_succ, Act.put, List.setIfInBounds_toArray, List.set_cons_zero, List.set_cons_succ]) | (refine wpAnyH_take (i := 6) (v := undef) rfl (by kernel_rfl) (by kernel_rfl) (by kernel_rfl) (fun _ _ _ h => h) (Or.inr ⟨by rfl, rfl⟩) hHeld ?_; simp only [List.getElem_toArray, List.getElem_cons_zero, List.getElem_cons_succ, Act.put, List.setIfInBounds_toArray, List.set_cons_zero, List.set_cons_succ])
            first | (refine wpAnyH_take (i := 7) (v := ?_) rfl (by kernel_rfl) (by kernel_rfl) (by kernel_rfl) (fun _ _ _ h => h) (Or.inl ⟨by rfl, ?_⟩) hHeld ?_; rotate_left; (intro w hSw; (obtain ⟨m0, m1, _⟩ := hSw.x.k.p.two; obtain ⟨n0, n1, _⟩ := hSw.x.s.two; obtain ⟨o0, o1, _⟩ := hSw.x.c.two; clear hSw); (go_simp <;> with_reducible rfl)); simp only [List.getElem_toArray, List.getElem_cons_zero, List.getElem_cons_succ, Act.put, List.setIfInBounds_toArray, List.set_cons_zero, List.set_cons_succ]) | (refine wpAnyH_take (i := 7) (v := undef) rfl (by kernel_rfl) (by kernel_rfl) (by kernel_rfl) (fun _ _ _ h => h) (Or.inr ⟨by rfl, rfl⟩) hHeld ?_; simp only [List.getElem_toArray, List.getElem_cons_zero, List.getElem_cons_succ, Act.put, List.setIfInBounds_toArray, List.set_cons_zero, List.set_cons_succ])
            first | (refine wpAnyH_take (i := 8) (v := ?_) rfl (by kernel_rfl) (by kernel_rfl) (by kernel_rfl) (fun _ _ _ h => h) (Or.inl ⟨by rfl, ?_⟩) hHeld ?_; rotate_left; (intro w hSw; (obtain ⟨m0, m1, _⟩ := hSw.x.k.p.two; obtain ⟨n0, n1, _⟩ := hSw.x.s.two; obtain ⟨o0, o1, _⟩ := hSw.x.c.two; clear hSw); (go_simp <;> with_reducible rfl)); simp only [List.getElem_toArray, List.getElem_cons_zero, List.getElem_cons_succ, Act.put, List.setIfInBounds_toArray, List.set_cons_zero, List.set_cons_succ]) | (refine wpAnyH_take (i := 8) (v := undef) rfl (by kernel_rfl) (by kernel_rfl) (by kernel_rfl) (fun _ _ _ h => h) (Or.inr ⟨by rfl, rfl⟩) hHeld ?_; simp only [List.getElem_toArray, List.getElem_cons_zero, List.getElem_cons_succ, Act.put, List.setIfInBounds_toArray, List.set_cons_zero, List.set_cons_succ])
            first | (refine wpAnyH_take (i := 9) (v := ?_) rfl (by kernel_rfl) (by kernel_rfl) (by kernel_rfl) (fun _ _ _ h => h) (Or.inl ⟨by rfl, ?_⟩) hHeld ?_; rotate_left; (intro w hSw; (obtain ⟨m0, m1, _⟩ := hSw.x.k.p.two; obtain ⟨n0, n1, _⟩ := hSw.x.s.two; obtain ⟨o0, o1, _⟩ := hSw.x.c.two; clear hSw); (go_simp <;> with_reducible rfl)); simp only [List.getElem_toArray, List.getElem_cons_zero, List.getElem_cons_succ, Act.put, List.setIfInBounds_toArray, List.set_cons_zero, List.set_cons_succ]) | (refine wpAnyH_take (i := 9) (v := undef) rfl (by kernel_rfl) (by kernel_rfl) (by kernel_rfl) (fun _ _ _ h => h) (Or.inr ⟨by rfl, rfl⟩) hHeld ?_; simp only [List.getElem_toArray, List.getElem_cons_zero, List.getElem_cons_succ, Act.put, List.setIfInBounds_toArray, List.set_cons_zero, List.set_cons_succ])
            first | (refine wpAnyH_take (i := 10) (v := undef) rfl (by kernel_rfl) (by kernel_rfl) (by kernel_rfl) (fun _ _ _ h => h) (Or.inr ⟨by rfl, rfl⟩) hHeld ?_; simp only [List.getElem_toArray, List.getElem_cons_zero, List.getElem_cons_succ, Act.put, List.setIfInBounds_toArray, List.set_cons_zero, List.set_cons_succ]) | (refine wpAnyH_ready (rs := [10]) (by kernel_rfl) (by simp) ?_; refine AllReadyH.cons rfl (fun K hK => ?_) AllReadyH.nil; go_simp; (refine (HWe.out _ hHeld.x.k.b hHeld.x.sl hHeld.x.k.l hHeld.e).mono ?_; rintro e w11 ⟨rfl, hb11⟩; have hK2 := hHeld.later hb11); refine hK.out _ _ ?_ (fun hHeld => ?_); (first | exact hK2 | exact hHeld | exact hKd0); clear hK K; try dsimp only)
            (refine wpAnyH_take (i := 11) (v := ?_) rfl (by kernel_rfl) (by kernel_rfl) (by kernel_rfl) (fun _ _ _ h => h) (Or.inl ⟨by rfl, ?_⟩) hHeld ?_; rotate_left; (intro w hSw; (obtain ⟨m0, m1, _⟩ := hSw.x.k.p.two; obtain ⟨n0, n1, _⟩ := hSw.x.s.two; obtain ⟨o0, o1, _⟩ := hSw.x.c.two; clear hSw); (go_simp <;> with_reducible rfl)); simp only [List.getElem_toArray, List.getElem_cons_zero, List.getElem_cons_succ, Act.put, List.setIfInBounds_toArray, List.set_cons_zero, List.set_cons_succ])
            (refine wpAnyH_take (i := 12) (v := ?_) rfl (by kernel_rfl) (by kernel_rfl) (by kernel_rfl) (fun _ _ _ h => h) (Or.inl ⟨by rfl, ?_⟩) hHeld ?_; rotate_left; (intro w hSw; (obtain ⟨m0, m1, _⟩ := hSw.x.k.p.two; obtain ⟨n0, n1, _⟩ := hSw.x.s.two; obtain ⟨o0, o1, _⟩ := hSw.x.c.two; clear hSw); (go_simp <;> with_reducible rfl)); simp only [List.getElem_toArray, List.getElem_cons_zero, List.getElem_cons_succ, Act.put, List.setIfInBounds_toArray, List.set_cons_zero, List.set_cons_succ])
            first | (refine wpAnyH_take (i := 13) (v := ?_) rfl (by kernel_rfl) (by kernel_rfl) (by kernel_rfl) (fun _ _ _ h => h) (Or.inl ⟨by rfl, ?_⟩) hHeld ?_; rotate_left; (intro w hSw; (obtain ⟨m0, m1, _⟩ := hSw.x.k.p.two; obtain ⟨n0, n1, _⟩ := hSw.x.s.two; obtain ⟨o0, o1, _⟩ := hSw.x.c.two; clear hSw); (go_simp <;> with_reducible rfl)); simp only [List.getElem_toArray, List.getElem_cons_zero, List.getElem_cons_succ, Act.put, List.setIfInBounds_toArray, List.set_cons_zero, List.set_cons_succ]) | (refine wpAnyH_take (i := 13) (v := undef) rfl (by kernel_rfl) (by kernel_rfl) (by kernel_rfl) (fun _ _ _ h => h) (Or.inr ⟨by rfl, rfl⟩) hHeld ?_; simp only [List.getElem_toArray, List.getElem_cons_zero, List.getElem_cons_succ, Act.put, List.setIfInBounds_toArray, List.set_cons_zero, List.set_cons_succ])
            first | (refine wpAnyH_take (i := 14) (v := ?_) rfl (by kernel_rfl) (by kernel_rfl) (by kernel_rfl) (fun _ _ _ h => h) (Or.inl ⟨by rfl, ?_⟩) hHeld ?_; rotate_left; (intro w hSw; (obtain ⟨m0, m1, _⟩ := hSw.x.k.p.two; obtain ⟨n0, n1, _⟩ := hSw.x.s.two; obtain ⟨o0, o1, _⟩ := hSw.x.c.two; clear hSw); (go_simp <;> with_reducible rfl)); simp only [List.getElem_toArray, List.getElem_cons_zero, List.getElem_cons_succ, Act.put, List.setIfInBounds_toArray, List.set_cons_zero, List.set_cons_succ]) | (refine wpAnyH_take (i := 14) (v := undef) rfl (by kernel_rfl) (by kernel_rfl) (by kernel_rfl) (fun _ _ _ h => h) (Or.inr ⟨by rfl, rfl⟩) hHeld ?_; simp only [List.getElem_toArray, List.getElem_cons_zero, List.getElem_cons_succ, Act.put, List.setIfInBounds_toArray, List.set_cons_zero, List.set_cons_succ])
            first | (refine wpAnyH_take (i := 15) (v := ?_) rfl (by kernel_rfl) (by kernel_rfl) (by kernel_rfl) (fun _ _ _ h => h) (Or.inl ⟨by rfl, ?_⟩) hHeld ?_; rotate_left; (intro w hSw; (obtain ⟨m0, m1, _⟩ := hSw.x.k.p.two; obtain ⟨n0, n1, _⟩ := hSw.x.s.two; obtain ⟨o0, o1, _⟩ := hSw.x.c.two; clear hSw); (go_simp <;> with_reducible rfl)); simp only [List.getElem_toArray, List.getElem_cons_zero, List.getElem_cons_succ, Act.put, List.setIfInBounds_toArray, List.set_cons_zero, List.set_cons_succ]) | (refine wpAnyH_take (i := 15) (v := undef) rfl (by kernel_rfl) (by kernel_rfl) (by kernel_rfl) (fun _ _ _ h => h) (Or.inr ⟨by rfl, rfl⟩) hHeld ?_; simp only [List.getElem_toArray, List.getElem_cons_zero, List.getElem_cons_succ, Act.put, List.setIfInBounds_toArray, List.set_cons_zero, List.set_cons_succ])
            first | (refine wpAnyH_take (i := 16) (v := ?_) rfl (by kernel_rfl) (by kernel_rfl) (by kernel_rfl) (fun _ _ _ h => h) (Or.inl ⟨by rfl, ?_⟩) hHeld ?_; rotate_left; (intro w hSw; (obtain ⟨m0, m1, _⟩ := hSw.x.k.p.two; obtain ⟨n0, n1, _⟩ := hSw.x.s.two; obtain ⟨o0, o1, _⟩ := hSw.x.c.two; clear hSw); (go_simp <;> with_reducible rfl)); simp only [List.getElem_toArray, List.getElem_cons_zero, List.getElem_cons_succ, Act.put, List.setIfInBounds_toArray, List.set_cons_zero, List.set_cons_succ]) | (refine wpAnyH_take (i := 16) (v := undef) rfl (by kernel_rfl) (by kernel_rfl) (by kernel_rfl) (fun _ _ _ h => h) (Or.inr ⟨by rfl, rfl⟩) hHeld ?_; simp only [List.getElem_toArray, List.getElem_cons_zero, List.getElem_cons_succ, Act.put, List.setIfInBounds_toArray, List.set_cons_zero, List.set_cons_succ])
            first | (refine wpAnyH_take (i := 17) (v := ?_) rfl (by kernel_rfl) (by kernel_rfl) (by kernel_rfl) (fun _ _ _ h => h) (Or.inl ⟨by rfl, ?_⟩) hHeld ?_; rotate_left; (intro w hSw; (obtain ⟨m0, m1, _⟩ := hSw.x.k.p.two; obtain ⟨n0, n1, _⟩ := hSw.x.s.two; obtain ⟨o0, o1, _⟩ := hSw.x.c.two; clear hSw); (go_simp <;> with_reducible rfl)); simp only [List.getElem_toArray, List.getElem_cons_zero, List.getElem_cons_succ, Act.put, List.setIfInBounds_toArray, List.set_cons_zero, List.set_cons_succ]) | (refine wpAnyH_take (i := 17) (v := undef) rfl (by kernel_rfl) (by kernel_rfl) (by kernel_rfl) (fun _ _ _ h => h) (Or.inr ⟨by rfl, rfl⟩) hHeld ?_; simp only [List.getElem_toArray, List.getElem_cons_zero, List.getElem_cons_succ, Act.put, List.setIfInBounds_toArray, List.set_cons_zero, List.set_cons_succ])
            first | (refine wpAnyH_take (i := 18) (v := undef) rfl (by kernel_rfl) (by kernel_rfl) (by kernel_rfl) (fun _ _ _ h => h) (Or.inr ⟨by rfl, rfl⟩) hHeld ?_; simp only [List.getElem_toArray, List.getElem_cons_zero, List.getElem_cons_succ, Act.put, List.setIfInBounds_toArray, List.set_cons_zero, List.set_cons_succ]) | (refine wpAnyH_ready (rs := [18]) (by kernel_rfl) (by simp) ?_; refine AllReadyH.cons rfl (fun K hK => ?_) AllReadyH.nil; go_simp; (refine (HTb.out _).mono ?_; rintro e w11 ⟨rfl, hb11⟩; have hK2 := hHeld.later hb11); refine hK.out _ _ ?_ (fun hHeld => ?_); (first | exact hK2 | exact hHeld | exact hKd0); clear hK K; try dsimp only)
            first | (refine wpAnyH_take (i := 19) (v := ?_) rfl (by kernel_rfl) (by kernel_rfl) (by kernel_rfl) (fun _ _ _ h => h) (Or.inl ⟨by rfl, ?_⟩) hHeld ?_; rotate_left; (intro w hSw; (obtain ⟨m0, m1, _⟩ := hSw.x.k.p.two; obtain ⟨n0, n1, _⟩ := hSw.x.s.two; obtain ⟨o0, o1, _⟩ := hSw.x.c.two; clear hSw); (go_simp <;> with_reducible rfl)); simp only [List.getElem_toArray, List.getElem_cons_zero, List.getElem_cons_succ, Act.put, List.setIfInBounds_toArray, List.set_cons_zero, List.set_cons_succ]) | (refine wpAnyH_take (i := 19) (v := undef) rfl (by kernel_rfl) (by kernel_rfl) (by kernel_rfl) (fun _ _ _ h => h) (Or.inr ⟨by rfl, rfl⟩) hHeld ?_; simp only [List.getElem_toArray, List.getElem_cons_zero, List.getElem_cons_succ, Act.put, List.setIfInBounds_toArray, List.set_cons_zero, List.set_cons_succ])
            first | (refine wpAnyH_take (i := 20) (v := ?_) rfl (by kernel_rfl) (by kernel_rfl) (by kernel_rfl) (fun _ _ _ h => h) (Or.inl ⟨by rfl, ?_⟩) hHeld ?_; rotate_left; (intro w hSw; (obtain ⟨m0, m1, _⟩ := hSw.x.k.p.two; obtain ⟨n0, n1, _⟩ := hSw.x.s.two; obtain ⟨o0, o1, _⟩ := hSw.x.c.two; clear hSw); (go_simp <;> with_reducible rfl)); simp only [List.getElem_toArray, List.getElem_cons_zero, List.getElem_cons_succ, Act.put, List.setIfInBounds_toArray, List.set_cons_zero, List.set_cons_succ]) | (refine wpAnyH_take (i := 20) (v := undef) rfl (by kernel_rfl) (by kernel_rfl) (by kernel_rfl) (fun _ _ _ h => h) (Or.inr ⟨by rfl, rfl⟩) hHeld ?_; simp only [List.getElem_toArray, List.getElem_cons_zero, List.getElem_cons_succ, Act.put, List.setIfInBounds_toArray, List.set_cons_zero, List.set_cons_succ])
            (refine wpAnyH_take (i := 21) (v := ?_) rfl (by kernel_rfl) (by kernel_rfl) (by kernel_rfl) (fun _ _ _ h => h) (Or.inl ⟨by rfl, ?_⟩) hHeld ?_; rotate_left; (intro w hSw; (obtain ⟨m0, m1, _⟩ := hSw.x.k.p.two; obtain ⟨n0, n1, _⟩ := hSw.x.s.two; obtain ⟨o0, o1, _⟩ := hSw.x.c.two; clear hSw); (go_simp <;> with_reducible rfl)); simp only [List.getElem_toArray, List.getElem_cons_zero, List.getElem_cons_succ, Act.put, List.setIfInBounds_toArray, List.set_cons_zero, List.set_cons_succ])
            (refine wpAnyH_take (i := 22) (v := ?_) rfl (by kernel_rfl) (by kernel_rfl) (by kernel_rfl) (fun _ _ _ h => h) (Or.inl ⟨by rfl, ?_⟩) hHeld ?_; rotate_left; (intro w hSw; (obtain ⟨m0, m1, _⟩ := hSw.x.k.p.two; obtain ⟨n0, n1, _⟩ := hSw.x.s.two; obtain ⟨o0, o1, _⟩ := hSw.x.c.two; clear hSw); (go_simp <;> with_reducible rfl)); simp only [List.getElem_toArray, List.getElem_cons_zero, List.getElem_cons_succ, Act.put, List.setIfInBounds_toArray, List.set_cons_zero, List.set_cons_succ])
            refine wpAnyH_done (by kernel_rfl) ?_ _
            refine NoPanic.normal ?_
            have HBz := hid hHeld.x.k.b
            clear hHeld hKd0 HE
            go_wp2
            go_ret
            exact ⟨rfl, HBz.out⟩
      · have bq : (sc == 0) = false := by simpa using hs
        clear HMg HW
        go_upto_region 17 with fail
        clear m0 m1 n0 n1
        have hKd0 := HX.out.later (Below.refl _ _).drew
        refine wp_region_noPanic ?_
        refine wp_region_held_drew (S := fun W => SX w (.slice au ys.length cu) ys P (.slice ap ps.length cp) ps S sc (.slice a7 ss.length cs) ss B bv W) (by kernel_rfl) ?_ (fun hHeld => ?_)
        · first | exact hK2 | exact hHeld | exact hKd0
        (refine wpAnyH_take (i := 0) (v := ?_) rfl (by kernel_rfl) (by kernel_rfl) (by kernel_rfl) (fun _ _ _ h => h) (Or.inl ⟨by rfl, ?_⟩) hHeld ?_; rotate_left; (intro w hSw; (obtain ⟨m0, m1, _⟩ := hSw.k.p.two; obtain ⟨n0, n1, _⟩ := hSw.s.two; obtain ⟨o0, o1, _⟩ := hSw.c.two; clear hSw); (go_simp <;> with_reducible rfl)); simp only [List.getElem_toArray, List.getElem_cons_zero, Act.put, List.setIfInBounds_toArray, List.set_cons_zero, List.set_cons_succ])
        (refine wpAnyH_take (i := 1) (v := ?_) rfl (by kernel_rfl) (by kernel_rfl) (by kernel_rfl) (fun _ _ _ h => h) (Or.inl ⟨by rfl, ?_⟩) hHeld ?_; rotate_left; (intro w hSw; (obtain ⟨m0, m1, _⟩ := hSw.k.p.two; obtain ⟨n0, n1, _⟩ := hSw.s.two; obtain ⟨o0, o1, _⟩ := hSw.c.two; clear hSw); (go_simp <;> with_reducible rfl)); simp only [List.getElem_toArray, List.getElem_cons_zero, List.getElem_cons_succ, Act.put, List.setIfInBounds_toArray, List.set_cons_zero, List.set_cons_succ])
        (refine wpAnyH_take (i := 2) (v := ?_) rfl (by kernel_rfl) (by kernel_rfl) (by kernel_rfl) (fun _ _ _ h => h) (Or.inl ⟨by rfl, ?_⟩) hHeld ?_; rotate_left; (intro w hSw; (obtain ⟨m0, m1, _⟩ := hSw.k.p.two; obtain ⟨n0, n1, _⟩ := hSw.s.two; obtain ⟨o0, o1, _⟩ := hSw.c.two; clear hSw); (go_simp <;> with_reducible rfl)); simp only [List.getElem_toArray, List.getElem_cons_zero, List.getElem_cons_succ, Act.put, List.setIfInBounds_toArray, List.set_cons_zero, List.set_cons_succ])
        (refine wpAnyH_take (i := 3) (v := ?_) rfl (by kernel_rfl) (by kernel_rfl) (by kernel_rfl) (fun _ _ _ h => h) (Or.inl ⟨by rfl, ?_⟩) hHeld ?_; rotate_left; (intro w hSw; (obtain ⟨m0, m1, _⟩ := hSw.k.p.two; obtain ⟨n0, n1, _⟩ := hSw.s.two; obtain ⟨o0, o1, _⟩ := hSw.c.two; clear hSw); (go_simp <;> with_reducible rfl)); simp only [List.getElem_toArray, List.getElem_cons_zero, List.getElem_cons_succ, Act.put, List.setIfInBounds_toArray, List.set_cons_zero, List.set_cons_succ])
        (refine wpAnyH_take (i := 4) (v := ?_) rfl (by kernel_rfl) (by kernel_rfl) (by kernel_rfl) (fun _ _ _ h => h) (Or.inl ⟨by rfl, ?_⟩) hHeld ?_; rotate_left; (intro w hSw; (obtain ⟨m0, m1, _⟩ := hSw.k.p.two; obtain ⟨n0, n1, _⟩ := hSw.s.two; obtain ⟨o0, o1, _⟩ := hSw.c.two; clear hSw); (go_simp <;> with_reducible rfl)); simp only [List.getElem_toArray, List.getElem_cons_zero, List.getElem_cons_succ, Act.put, List.setIfInBounds_toArray, List.set_cons_zero, List.set_cons_succ])
        (refine wpAnyH_take (i := 5) (v := ?_) rfl (by kernel_rfl) (by kernel_rfl) (by kernel_rfl) (fun _ _ _ h => h) (Or.inl ⟨by rfl, ?_⟩) hHeld ?_; rotate_left; (intro w hSw; (obtain ⟨m0, m1, _⟩ := hSw.k.p.two; obtain ⟨n0, n1, _⟩ := hSw.s.two; obtain ⟨o0, o1, _⟩ := hSw.c.two; clear hSw); (go_simp <;> with_reducible rfl)); simp only [List.getElem_toArray, List.getElem_cons_zero, List.getElem_cons_succ, Act.put, List.setIfInBounds_toArray, List.set_cons_zero, List.set_cons_succ])
        (refine wpAnyH_ready (rs := [6]) (by kernel_rfl) (by simp) ?_; refine AllReadyH.cons rfl (fun K hK => ?_) AllReadyH.nil; go_simp; (refine (HTg.out _ hHeld.k.pl).mono ?_; rintro e w11 ⟨u11, rfl, ho11, hb11⟩; obtain ⟨a11, c11, rfl, _⟩ := ho11.sl; have hK2 := hHeld.later hb11); refine hK.out _ _ ?_ (fun hHeld => ?_); (first | exact hK2 | exact hHeld | exact hKd0); clear hK K; try dsimp only)
        (refine wpAnyH_take (i := 7) (v := ?_) rfl (by kernel_rfl) (by kernel_rfl) (by kernel_rfl) (fun _ _ _ h => h) (Or.inl ⟨by rfl, ?_⟩) hHeld ?_; rotate_left; (intro w hSw; (obtain ⟨m0, m1, _⟩ := hSw.k.p.two; obtain ⟨n0, n1, _⟩ := hSw.s.two; obtain ⟨o0, o1, _⟩ := hSw.c.two; clear hSw); (go_simp <;> with_reducible rfl)); simp only [List.getElem_toArray, List.getElem_cons_zero, List.getElem_cons_succ, Act.put, List.setIfInBounds_toArray, List.set_cons_zero, List.set_cons_succ])
        (refine wpAnyH_take (i := 8) (v := ?_) rfl (by kernel_rfl) (by kernel_rfl) (by kernel_rfl) (fun _ _ _ h => h) (Or.inl ⟨by rfl, ?_⟩) hHeld ?_; rotate_left; (intro w hSw; (obtain ⟨m0, m1, _⟩ := hSw.k.p.two; obtain ⟨n0, n1, _⟩ := hSw.s.two; obtain ⟨o0, o1, _⟩ := hSw.c.two; clear hSw); (go_simp <;> with_reducible rfl)); simp only [List.getElem_toArray, List.getElem_cons_zero, List.getElem_cons_succ, Act.put, List.setIfInBounds_toArray, List.set_cons_zero, List.set_cons_succ])
        (refine wpAnyH_take (i := 9) (v := ?_) rfl (by kernel_rfl) (by kernel_rfl) (by kernel_rfl) (fun _ _ _ h => h) (Or.inl ⟨by rfl, ?_⟩) hHeld ?_; rotate_left; (intro w hSw; (obtain ⟨m0, m1, _⟩ := hSw.k.p.two; obtain ⟨n0, n1, _⟩ := hSw.s.two; obtain ⟨o0, o1, _⟩ := hSw.c.two; clear hSw); (go_simp <;> with_reducible rfl)); simp only [List.getElem_toArray, List.getElem_cons_zero, List.getElem_cons_succ, Act.put, List.setIfInBounds_toArray, List.set_cons_zero, List.set_cons_succ])
        first | (refine wpAnyH_take (i := 10) (v := ?_) rfl (by kernel_rfl) (by kernel_rfl) (by kernel_rfl) (fun _ _ _ h => h) (Or.inl ⟨by rfl, ?_⟩) hHeld ?_; rotate_left; (intro w hSw; (obtain ⟨m0, m1, _⟩ := hSw.k.p.two; obtain ⟨n0, n1, _⟩ := hSw.s.two; obtain ⟨o0, o1, _⟩ := hSw.c.two; clear hSw); (go_simp <;> with_reducible rfl)); simp only [List.getElem_toArray, List.getElem_cons_zero, List.getElem_cons_succ, Act.put, List.setIfInBounds_toArray, List.set_cons_zero, List.set_cons_succ]) | (refine wpAnyH_take (i := 10) (v := undef) rfl (by kernel_rfl) (by kernel_rfl) (by kernel_rfl) (fun _ _ _ h => h) (Or.inr ⟨by rfl, rfl⟩) hHeld ?_; simp only [List.getElem_toArray, List.getElem_cons_zero, List.getElem_cons_succ, Act.put, List.setIfInBounds_toArray, List.set_cons_zero, List.set_cons_succ])
        first | (refine wpAnyH_take (i := 11) (v := ?_) rfl (by kernel_rfl) (by kernel_rfl) (by kernel_rfl) (fun _ _ _ h => h) (Or.inl ⟨by rfl, ?_⟩) hHeld ?_; rotate_left; (intro w hSw; (obtain ⟨m0, m1, _⟩ := hSw.k.p.two; obtain ⟨n0, n1, _⟩ := hSw.s.two; obtain ⟨o0, o1, _⟩ := hSw.c.two; clear hSw); (go_simp <;> with_reducible rfl)); simp only [List.getElem_toArray, List.getElem_cons_zero, List.getElem_cons_succ, Act.put, List.setIfInBounds_toArray, List.set_cons_zero, List.set_cons_succ]) | (refine wpAnyH_take (i := 11) (v := undef) rfl (by kernel_rfl) (by kernel_rfl) (by kernel_rfl) (fun _ _ _ h => h) (Or.inr ⟨by rfl, rfl⟩) hHeld ?_; simp only [List.getElem_toArray, List.getElem_cons_zero, List.getElem_cons_succ, Act.put, List.setIfInBounds_toArray, List.set_cons_zero, List.set_cons_succ])
        first | (refine wpAnyH_take (i := 12) (v := ?_) rfl (by kernel_rfl) (by kernel_rfl) (by kernel_rfl) (fun _ _ _ h => h) (Or.inl ⟨by rfl, ?_⟩) hHeld ?_; rotate_left; (intro w hSw; (obtain ⟨m0, m1, _⟩ := hSw.k.p.two; obtain ⟨n0, n1, _⟩ := hSw.s.two; obtain ⟨o0, o1, _⟩ := hSw.c.two; clear hSw); (go_simp <;> with_reducible rfl)); simp only [List.getElem_toArray, List.getElem_cons_zero, List.getElem_cons_succ, Act.put, List.setIfInBounds_toArray, List.set_cons_zero, List.set_cons_succ]) | (refine wpAnyH_take (i := 12) (v := undef) rfl (by kernel_rfl) (by kernel_rfl) (by kernel_rfl) (fun _ _ _ h => h) (Or.inr ⟨by rfl, rfl⟩) hHeld ?_; simp only [List.getElem_toArray, List.getElem_cons_zero, List.getElem_cons_succ, Act.put, List.setIfInBounds_toArray, List.set_cons_zero, List.set_cons_succ])
        first | (refine wpAnyH_take (i := 13) (v := ?_) rfl (by kernel_rfl) (by kernel_rfl) (by kernel_rfl) (fun _ _ _ h => h) (Or.inl ⟨by rfl, ?_⟩) hHeld ?_; rotate_left; (intro w hSw; (obtain ⟨m0, m1, _⟩ := hSw.k.p.two; obtain ⟨n0, n1, _⟩ := hSw.s.two; obtain ⟨o0, o1, _⟩ := hSw.c.two; clear hSw); (go_simp <;> with_reducible rfl)); simp only [List.getElem_toArray, List.getElem_cons_zero, List.getElem_cons_succ, Act.put, List.setIfInBounds_toArray, List.set_cons_zero, List.set_cons_succ]) | (refine wpAnyH_take (i := 13) (v := undef) rfl (by kernel_rfl) (by kernel_rfl) (by kernel_rfl) (fun _ _ _ h => h) (Or.inr ⟨by rfl, rfl⟩) hHeld ?_; simp only [List.getElem_toArray, List.getElem_cons_zero, List.getElem_cons_succ, Act.put, List.setIfInBounds_toArray, List.set_cons_zero, List.set_cons_succ])
        first | (refine wpAnyH_take (i := 14) (v := ?_) rfl (by kernel_rfl) (by kernel_rfl) (by kernel_rfl) (fun _ _ _ h => h) (Or.inl ⟨by rfl, ?_⟩) hHeld ?_; rotate_left; (intro w hSw; (obtain ⟨m0, m1, _⟩ := hSw.k.p.two; obtain ⟨n0, n1, _⟩ := hSw.s.two; obtain ⟨o0, o1, _⟩ := hSw.c.two; clear hSw); (go_simp <;> with_reducible rfl)); simp only [List.getElem_toArray, List.getElem_cons_zero, List.getElem_cons_succ, Act.put, List.setIfInBounds_toArray, List.set_cons_zero, List.set_cons_succ]) | (refine wpAnyH_take (i := 14) (v := undef) rfl (by kernel_rfl) (by kernel_rfl) (by kernel_rfl) (fun _ _ _ h => h) (Or.inr ⟨by rfl, rfl⟩) hHeld ?_; simp only [List.getElem_toArray, List.getElem_cons_zero, List.getElem_cons_succ, Act.put, List.setIfInBounds_toArray, List.set_cons_zero, List.set_cons_succ])
        first | (refine wpAnyH_take (i := 15) (v := undef) rfl (by kernel_rfl) (by kernel_rfl) (by kernel_rfl) (fun _ _ _ h => h) (Or.inr ⟨by rfl, rfl⟩) hHeld ?_; simp only [List.getElem_toArray, List.getElem_cons_zero, List.getElem_cons_succ, Act.put, List.setIfInBounds_toArray, List.set_cons_zero, List.set_cons_succ]) | (refine wpAnyH_ready (rs := [15]) (by kernel_rfl) (by simp) ?_; refine AllReadyH.cons rfl (fun K hK => ?_) AllReadyH.nil; go_simp; (refine (HTb.out _).mono ?_; rintro e w11 ⟨rfl, hb11⟩; have hK2 := hHeld.later hb11); refine hK.out _ _ ?_ (fun hHeld => ?_); (first | exact hK2 | exact hHeld | exact hKd0); clear hK K; try dsimp only)
        first | (refine wpAnyH_take (i := 16) (v := ?_) rfl (by kernel_rfl) (by kernel_rfl) (by kernel_rfl) (fun _ _ _ h => h) (Or.inl ⟨by rfl, ?_⟩) hHeld ?_; rotate_left; (intro w hSw; (obtain ⟨m0, m1, _⟩ := hSw.k.p.two; obtain ⟨n0, n1, _⟩ := hSw.s.two; obtain ⟨o0, o1, _⟩ := hSw.c.two; clear hSw); (go_simp <;> with_reducible rfl)); simp only [List.getElem_toArray, List.getElem_cons_zero, List.getElem_cons_succ, Act.put, List.setIfInBounds_toArray, List.set_cons_zero, List.set_cons_succ]) | (refine wpAnyH_take (i := 16) (v := undef) rfl (by kernel_rfl) (by kernel_rfl) (by kernel_rfl) (fun _ _ _ h => h) (Or.inr ⟨by rfl, rfl⟩) hHeld ?_; simp only [List.getElem_toArray, List.getElem_cons_zero, List.getElem_cons_succ, Act.put, List.setIfInBounds_toArray, List.set_cons_zero, List.set_cons_succ])
        first | (refine wpAnyH_take (i := 17) (v := ?_) rfl (by kernel_rfl) (by kernel_rfl) (by kernel_rfl) (fun _ _ _ h => h) (Or.inl ⟨by rfl, ?_⟩) hHeld ?_; rotate_left; (intro w hSw; (obtain ⟨m0, m1, _⟩ := hSw.k.p.two; obtain ⟨n0, n1, _⟩ := hSw.s.two; obtain ⟨o0, o1, _⟩ := hSw.c.two; clear hSw); (go_simp <;> with_reducible rfl)); simp only [List.getElem_toArray, List.getElem_cons_zero, List.getElem_cons_succ, Act.put, List.setIfInBounds_toArray, List.set_cons_zero, List.set_cons_succ]) | (refine wpAnyH_take (i := 17) (v := undef) rfl (by kernel_rfl) (by kernel_rfl) (by kernel_rfl) (fun _ _ _ h => h) (Or.inr ⟨by rfl, rfl⟩) hHeld ?_; simp only [List.getElem_toArray, List.getElem_cons_zero, List.getElem_cons_succ, Act.put, List.setIfInBounds_toArray, List.set_cons_zero, List.set_cons_succ])
        (refine wpAnyH_take (i := 18) (v := ?_) rfl (by kernel_rfl) (by kernel_rfl) (by kernel_rfl) (fun _ _ _ h => h) (Or.inl ⟨by rfl, ?_⟩) hHeld ?_; rotate_left; (intro w hSw; (obtain ⟨m0, m1, _⟩ := hSw.k.p.two; obtain ⟨n0, n1, _⟩ := hSw.s.two; obtain ⟨o0, o1, _⟩ := hSw.c.two; clear hSw); (go_simp <;> with_reducible rfl)); simp only [List.getElem_toArray, List.getElem_cons_zero, List.getElem_cons_succ, Act.put, List.setIfInBounds_toArray, List.set_cons_zero, List.set_cons_succ])
        (refine wpAnyH_take (i := 19) (v := ?_) rfl (by kernel_rfl) (by kernel_rfl) (by kernel_rfl) (fun _ _ _ h => h) (Or.inl ⟨by rfl, ?_⟩) hHeld ?_; rotate_left; (intro w hSw; (obtain ⟨m0, m1, _⟩ := hSw.k.p.two; obtain ⟨n0, n1, _⟩ := hSw.s.two; obtain ⟨o0, o1, _⟩ := hSw.c.two; clear hSw); (go_simp <;> with_reducible rfl)); simp only [List.getElem_toArray, List.getElem_cons_zero, List.getElem_cons_succ, Act.put, List.setIfInBounds_toArray, List.set_cons_zero, List.set_cons_succ])
        refine wpAnyH_done (by kernel_rfl) ?_ _
        refine NoPanic.normal ?_
        have HBz := hid hHeld.k.b
        clear hHeld hKd0 HX
        go_wp2
        go_ret
        exact ⟨rfl, HBz.out⟩
    · have HBz := hid HK9.out.b
      clear HK9 HY HQ HM HN HF HS HB HW
      go_wp2
      go_ret
      exact ⟨rfl, HBz.out⟩
end Go.Proofs.Ytbbejjlgfekipaa.SeaW
