/- For every list of bytes and every number the program's DecodeValues answers as the model's does, code and values, leaves its list as it was, and its answer is new memory that no later call turns; nothing that was there turns. No conditions. -/
import Derived.Test.YthecfboplfmdmaaDoorRows
import Derived.Test.YthecfboplfmdmaaDoorNum
import Derived.Test.YthecfboplfmdmaaDoorSli
import Derived.Test.YthecfboplfmdmaaDoorApp
import Derived.Test.YthecfboplfmdmaaDoorByt
import Derived.Test.YthecfboplfmdmaaDoorCrcM
import Derived.Test.YthecfboplfmdmaaDoorToInt
import Derived.Test.YthecfboplfmdmaaDoorIntL
import Derived.Test.YthecfboplfmdmaaDoorRdD
import Derived.Test.YthecfboplfmdmaaDoorRdT
import Derived.Test.YthecfboplfmdmaaDoorExI
import Derived.WalkKit
import Derived.ProofKit
import Derived.OpenShut
import Derived.ShutString
import Derived.LaidMore
import Derived.Stop.Joined
import Derived.Lib.LaidTab
import Derived.SevenTiedAt
import Derived.Lay
import Derived.Test.YthecfboplfmdmaaDoorTie
import Derived.Test.YthecfboplfmdmaaDoorCards
import Derived.ChangeOld
import Derived.Below
namespace Go.Proofs.YthecfboplfmdmaaDoor.fnExactDecodeValues
open Go.ChangeShapes Go.WideShapes Go.ChangeAt Go.RowKit
open Go.ChangeMaps (open_string shut_string)
set_option linter.unusedVariables false

theorem own : ownKnob Tryd.prog.godebug = none := by kernel_rfl
theorem laidOut : laidOutB Tryd.prog = true := by kernel_rfl

def IsRow (k : IntKind) (w : World) (a : Option Addr) (len cap : Nat) (zs : List Int) : Prop :=
  (a = none ∧ len = 0 ∧ cap = 0 ∧ zs = []) ∨
  ∃ x, a = some x ∧ len ≤ cap ∧ cap ≤ maxLen ∧ zs.length = cap ∧ (∀ i, i < zs.length → w.cell? (x.add i) = some (.int k (zs.getD i 0))) ∧ ∀ n ∈ zs, (Lit.int k n).wf = true

open Go.Proofs.YthecfboplfmdmaaDoor.Num Go.Proofs.YthecfboplfmdmaaDoor.Sli Go.Proofs.YthecfboplfmdmaaDoor.App Go.Proofs.YthecfboplfmdmaaDoor.CrcM Go.Proofs.YthecfboplfmdmaaDoor.RdD Go.Proofs.YthecfboplfmdmaaDoor.RdT Go.Proofs.YthecfboplfmdmaaDoor.ExI
open Go.Proofs.YthecfboplfmdmaaDoor.Byt (toByteS_calls eqByteS_calls markByteS_calls)
open Go.Proofs.YthecfboplfmdmaaDoor.IntL (eqIntsResult_calls markIntsResult_calls heldIntsResult_calls)
set_option maxHeartbeats 1000000 in
theorem walk (a0 : Option Addr) (len0 cap0 : Nat) (z0 : List Int) (a1 : Int) (w : World) (w0 : IsRow .u8 w a0 len0 cap0 z0) (w1 : (Lit.int .i64 a1).wf = true) :
    Calls Tryd.prog 5 #[.slice a0 len0 cap0, .int .i64 a1] w fun e w' => e = .returned (.bool true) ∧ Below w.heap.size w w' := by
  obtain ⟨hsl, hlen⟩ := sl_of_row w0
  have hwf := wf_of_row w0
  have hbd : BytesL (z0.take len0) := fun x hx => bounds_u8 (hwf x hx)
  clear w0 hwf
  generalize z0.take len0 = xs at *
  subst hlen
  by_cases hbig : 1048576 < xs.length
  · have hb' : (1048576 : Int) < xs.length := by omega
    go_enter Tryd.func5, Tryd.ntmps5
    go_wp2
    go_ret
    exact ⟨rfl, Below.refl _ _⟩
  · have hb' : (xs.length : Int) ≤ 1048576 := by omega
    have hyl := deL_small xs a1
    have HSL := hid hsl
    clear hsl
    go_enter Tryd.func5, Tryd.ntmps5
    go_wp2_with fail
    refine (toByteS_calls _ xs _ HSL.out (by omega)).mono ?_
    rintro e w1 ⟨g1, rfl, ho1, hb1⟩
    go_wp2_with fail
    refine (specDecV_calls _ xs a1 _ ho1.sl hbd (by omega)).mono ?_
    rintro e w2 ⟨W, rfl, hoW, hb2⟩
    have hW := hoW.sl
    have hb02 := bthen hb1 hb2
    have HW := hid hW
    have HB2 := hid hb02
    obtain ⟨aW, cW, rfl, _⟩ := hW
    clear ho1 hb1 hb2 hoW hb02
    go_wp2_with fail
    refine (toByteS_calls _ xs _ (HSL.out.later (bmore HB2.out _)) (by omega)).mono ?_
    rintro e w3 ⟨g3, rfl, ho3, hb3⟩
    have HO3 := hid ho3
    have HB3 := hid hb3
    clear ho3 hb3
    go_wp2_with fail
    refine (implDecV_calls _ xs a1 _ HO3.out.sl hbd (by omega)).mono ?_
    rintro e w4 ⟨G, rfl, hoG, hb4⟩
    obtain ⟨hK, hxb, hox⟩ := ki_start HB2.out HW.out HB3.out HO3.out hb4 hoG (T := 32)
    have hG := hoG.sl
    obtain ⟨aG, cG, rfl, _⟩ := hG
    clear hb4 hoG HB2 HW HB3 HO3
    generalize w2.heap.size = A at *
    generalize w3.heap.size = Bx at *
    have hp0 := hK.p0
    have hp1 := hK.p1
    have HK := hid hK
    have HX := hid hxb
    have HOX := hid hox
    clear hK hxb hox
    go_wp2_with fail
    refine (eqIntsResult_calls _ _ _ _ _ HK.out.oG.sl HK.out.slW hyl).mono ?_
    rintro e w5 ⟨rfl, hb5⟩
    have HK5 := hid (HK.out.later hb5)
    have HOX5 := hid (HOX.out.later hb5)
    have hq0 := HK5.out.q0
    have hq1 := HK5.out.q1
    have hp0 := HK5.out.p0
    have hp1 := HK5.out.p1
    generalize w4.heap.size = q at *
    clear HK HOX hb5
    go_wp2_with fail
    refine (toByteS_calls _ xs _ (HSL.out.later HK5.out.bel) (by omega)).mono ?_
    rintro e w6 ⟨g6, rfl, ho6, hb6⟩
    have HK6 := hid (HK5.out.later hb6)
    have HOX6 := hid (HOX5.out.later hb6)
    have HO6 := hid ho6
    clear HK5 HOX5 ho6 hb6 hp0 hp1 hq0 hq1
    go_wp2_with fail
    refine (eqByteS_calls _ _ xs _ HOX6.out.sl HO6.out.sl (by omega)).mono ?_
    rintro e w7 ⟨rfl, hb7⟩
    have HK7 := hid (HK6.out.later hb7)
    have HOX7 := hid (HOX6.out.later hb7)
    clear HK6 HOX6 HO6 hb7
    go_wp2_with fail
    refine (markByteS_calls _ _ xs _ 1 HOX7.out (by omega) (by omega)).mono ?_
    rintro e w8 ⟨rfl, _, hg8⟩
    have HK8 := hid (HK7.out.mark hg8 HX.out)
    have hq0 := HK8.out.q0
    have hq1 := HK8.out.q1
    have hp0 := HK8.out.p0
    have hp1 := HK8.out.p1
    have hcast : (((1 + xs.length : Nat) : Int)) = 1 + (xs.length : Int) := by omega
    rw [hcast]
    clear hcast HK7 HOX7 HX hg8
    go_wp2_with fail
    refine (eqIntsResult_calls _ _ _ _ _ HK8.out.oG.sl HK8.out.slW hyl).mono ?_
    rintro e w9 ⟨rfl, hb9⟩
    have HK9 := hid (HK8.out.later hb9)
    have hq0 := HK9.out.q0
    have hq1 := HK9.out.q1
    have hp0 := HK9.out.p0
    have hp1 := HK9.out.p1
    clear HK8 hb9
    go_wp2_with fail
    refine (markIntsResult_calls _ _ _ _ _ 1 HK9.out.oG hyl (by omega)).mono ?_
    rintro e w10 ⟨rfl, ho10, hg10⟩
    have HK10 := hid (HK9.out.markG hg10 ho10)
    have hq0 := HK10.out.q0
    have hq1 := HK10.out.q1
    have hp0 := HK10.out.p0
    have hp1 := HK10.out.p1
    have hcast : (((1 + (deL xs a1).length : Nat) : Int)) = 1 + ((deL xs a1).length : Int) := by omega
    rw [hcast]
    have HC := hid hcast
    clear hcast HK9 hg10 ho10
    go_wp2_with fail
    refine (heldIntsResult_calls _ _ _ _ 1 HK10.out.oG.sl hyl (by omega)).mono ?_
    rintro e w11 ⟨rfl, hb11⟩
    have HK11 := hid (HK10.out.later hb11)
    have hq0 := HK11.out.q0
    have hq1 := HK11.out.q1
    have hp0 := HK11.out.p0
    have hp1 := HK11.out.p1
    rw [HC.out]
    clear HK10 hb11
    go_wp2_with fail
    refine (toByteS_calls _ xs _ (HSL.out.later HK11.out.bel) (by omega)).mono ?_
    rintro e w12 ⟨g12, rfl, ho12, hb12⟩
    have HK12 := hid (HK11.out.later hb12)
    have HO12 := hid ho12
    clear HK11 ho12 hb12 hp0 hp1 hq0 hq1
    go_wp2_with fail
    refine (implDecV_calls _ xs a1 _ HO12.out.sl hbd (by omega)).mono ?_
    rintro e w13 ⟨V, rfl, hoV, hb13⟩
    have hV := hoV.sl
    have HK13 := hid (HK12.out.later hb13)
    have HK14 := hid (HK13.out.later (bmore (Below.refl _ _) (.cells #[.int .i64 (deC xs a1), V] 32)))
    have HV := hid hV
    obtain ⟨aV, cV, rfl, _⟩ := hV
    have hp0 := HK13.out.p0
    have hp1 := HK13.out.p1
    have hpl : A < w13.heap.size := by have := HK13.out.l1; have := HK13.out.l2; have := HK13.out.l3; omega
    clear HK12 HO12 hoV hb13
    go_wp2_with fail
    refine (eqIntsResult_calls _ _ _ _ _ (HV.out.later (bmore (Below.refl _ _) _)) HK14.out.slW hyl).mono ?_
    rintro e w15 ⟨rfl, hb15⟩
    have HK15 := hid (HK14.out.later hb15)
    have hq0 := HK15.out.q0
    have hq1 := HK15.out.q1
    clear HK13 HK14 HV hb15 hp0 hp1 hpl
    go_wp2_with fail
    refine (heldIntsResult_calls _ _ _ _ 1 HK15.out.oG.sl hyl (by omega)).mono ?_
    rintro e w16 ⟨rfl, hb16⟩
    have HB := hid (bthen HK15.out.bel hb16)
    rw [HC.out]
    clear HK15 hb16 hq0 hq1
    go_wp2
    go_ret
    exact ⟨rfl, HB.out⟩

set_option maxRecDepth 100000 in
theorem lifted (os : Os) (started : os.Started) (H : Type) (enc : TypeId × Value → H) :
    ReturnsInHanded {} Tryd.checked os 5 .any (fun w args => (Rows.fnExactDecodeValuesSpec.pre enc Tryd.prog Tryd.f5 [] false w args ∧ laidMetH Tryd.prog Rows.fnExactDecodeValuesRow.laid w) ∧ sizedMet enc Tryd.prog Tryd.f5 (OpenSpec.ofChange Rows.fnExactDecodeValuesSpec) false w args) (Rows.fnExactDecodeValuesSpec.post enc Tryd.prog Tryd.f5 false true false false) := by
  refine returnsInHanded_of_change_and (C := Tryd.checked) (X := fun w _ => laidMetH Tryd.prog Rows.fnExactDecodeValuesRow.laid w) (fun _ _ _ hh h => h.of_heap hh) own started (by kernel_rfl) Tryd.func5
    (ChangeSpec.witness_shaped (enc := enc) (C := Tryd.checked) (os := os) (X := fun w _ => laidMetH Tryd.prog Rows.fnExactDecodeValuesRow.laid w) false (World.laidAll Tryd.prog os Rows.fnExactDecodeValuesRow.laid) #[.slice none 0 0, .int .i64 0] 8 (World.laidAll_os _ _ _) (World.shaped_of_ZipB (by kernel_rfl) (by kernel_rfl)) (by kernel_rfl) (by kernel_rfl) (by kernel_rfl) (by rw [MakeChecks.laidMetH_plain _ _ _ (by kernel_rfl)]; exact laidMet_laidAll _ (by kernel_rfl) (by kernel_rfl))) ?_
  intro W base args ds gs before hval0 hW _ _ hL _
  have hval : ∀ (j : Nat) t v, Tryd.f5.params[j]? = some t → args[j]? = some v → Value.okWide Tryd.prog W .any base t v := hval0
  have hW' := hW
  obtain ⟨p, q, hA0, hV, rfl, hfz, hnd⟩ := hW
  have hA : DataW.TrodAll enc Tryd.prog W 0 (fun _ => true) true Tryd.f5.params.toList args.toList ds p := hA0
  rw [Tryd.params5] at hA hval
  obtain ⟨v0, vs0, d0, ds0, p0, q0, hargs, rfl, rfl, h0, r0⟩ := trodAll_cons hA
  obtain ⟨v1, vs1, d1, ds1, p1, q1, rfl, rfl, rfl, h1, r1⟩ := trodAll_cons r0
  obtain ⟨rfl, rfl, rfl⟩ := trodAll_nil r1
  obtain rfl : args = #[v0, v1] := by cases args; simp_all
  obtain ⟨rfl, rfl⟩ := trodVars_none hV
  obtain ⟨a0, len0, cap0, rfl⟩ := okWide_slice Tryd.underlying22 (hval 0 22 v0 rfl rfl)
  have k0 := h0
  have lt0 : ∀ x ∈ p0, x.block < W.heap.size := by obtain ⟨m, hm⟩ := k0; exact DataW.trod_lt m _ _ _ hm
  obtain ⟨z0, w0⟩ : ∃ zs, IsRow .u8 W a0 len0 cap0 zs := by
    obtain ⟨fuel, hf⟩ := h0
    rcases open_ints Tryd.underlying22 Tryd.underlying5 (by kernel_rfl) hf with ⟨hcs, _⟩ | ⟨x, l, c, zs, hcs, _, hl, hm, hz, _, hcell, hwz⟩
    · simp [Value.cells] at hcs
      obtain ⟨rfl, rfl, rfl⟩ := hcs
      exact ⟨[], .inl ⟨rfl, rfl, rfl, rfl⟩⟩
    · simp [Value.cells] at hcs
      obtain ⟨rfl, rfl, rfl⟩ := hcs
      exact ⟨zs, .inr ⟨_, rfl, hl, hm, by simpa using hz, hcell, hwz⟩⟩
  obtain ⟨a1, rfl, rfl, rfl, w1⟩ := open_int Tryd.underlying2 (hval 1 2 v1 rfl rfl) h1
  clear hA0 hval0
  refine (walk a0 len0 cap0 z0 a1 W w0 w1).mono fun e W' ⟨he, bel⟩ => ?_
  subst he
  exact ⟨_, rfl, _, _, _, [], _, [], hW', trodAll_mk1 (shut_bool Tryd.underlying4 _), (trodAll_cons_mk (Below.trod laidOut (by kernel_rfl) (of_decide_eq_true (by kernel_rfl)) k0 bel lt0) (trodAll_cons_mk (shut_int Tryd.underlying2 w1) trodAll_mk0)), rfl, bel.frame _, fun h => by cases h⟩

theorem over : Rows.fnExactDecodeValuesRow.holds Tryd.pinned (OpenSpec.ofChange Rows.fnExactDecodeValuesSpec) :=
  OpenClaim.holds_of_wide 5 Tryd.f5 rfl rfl rfl rfl rfl rfl rfl ⟨rfl, rfl, rfl, rfl, rfl⟩ rfl rfl rfl rfl rfl (by kernel_rfl) Tryd.func5 (by kernel_rfl)
    (of_decide_eq_true (by kernel_rfl)) (by unfold Func.isWrapper; first | (rw [if_pos (by decide +kernel)]; kernel_rfl) | (rw [if_neg (by decide +kernel)]; exact ⟨rfl, rfl⟩))
    (fun os started H enc _ => lifted os started H enc)

theorem proved : Rows.FnExactDecodeValuesCardSaid :=
  Claim7.holds_tied_plain_at .later [] [.data, .pinned] true (true, "3898ed811a5a262344e79e7384d37d4942393e027e2d68e31540919c301f04f6") false
    over (fun _ h => by cases h) (by kernel_rfl) (fun _ h => by cases h) fnExactDecodeValues_row_tie rfl ⟨rfl, rfl⟩ (by kernel_rfl) rfl
    (fun f fn hf hfn => by
      obtain rfl : f = 5 := Option.some.inj ((show Tryd.prog.funcNamed "loop.example/g00657/laws.FnExactDecodeValues" = some 5 by kernel_rfl).symm.trans hf) |>.symm
      obtain rfl : fn = Tryd.f5 := (Option.some.inj (Tryd.func5.symm.trans hfn)).symm
      exact ⟨by kernel_rfl, fun j t ht => by
        rw [Tryd.params5] at ht
        have hm : t ∈ [22, 2] := by simpa using Array.mem_of_getElem? ht
        have hall : ([22, 2].all fun u => !Tryd.prog.wantsStandIn u) = true := by kernel_rfl
        exact (show Tryd.prog.wantsStandIn t = false by simpa using List.all_eq_true.1 hall t hm)⟩)
    (by kernel_rfl)
#print axioms proved
end Go.Proofs.YthecfboplfmdmaaDoor.fnExactDecodeValues
