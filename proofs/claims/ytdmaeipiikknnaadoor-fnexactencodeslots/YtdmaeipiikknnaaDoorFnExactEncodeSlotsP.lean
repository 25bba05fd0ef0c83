/- For every list of slots the program's EncodeSlots answers as the model's does, code and bytes, in memory of its own that a later call leaves alone, and leaves its list as it was; nothing that was there turns. No conditions. -/
import Derived.Test.YtdmaeipiikknnaaDoorRows
import Derived.Test.YtdmaeipiikknnaaDoorNum
import Derived.Test.YtdmaeipiikknnaaDoorSli
import Derived.Test.YtdmaeipiikknnaaDoorApp
import Derived.Test.YtdmaeipiikknnaaDoorByt
import Derived.Test.YtdmaeipiikknnaaDoorCrcM
import Derived.Test.YtdmaeipiikknnaaDoorStr
import Derived.Test.YtdmaeipiikknnaaDoorDiv
import Derived.Test.YtdmaeipiikknnaaDoorDec
import Derived.Test.YtdmaeipiikknnaaDoorBlk
import Derived.Test.YtdmaeipiikknnaaDoorNxt
import Derived.Test.YtdmaeipiikknnaaDoorByte
import Derived.Test.YtdmaeipiikknnaaDoorTakS
import Derived.Test.YtdmaeipiikknnaaDoorTakT
import Derived.Test.YtdmaeipiikknnaaDoorRngF
import Derived.Test.YtdmaeipiikknnaaDoorRndF
import Derived.Test.YtdmaeipiikknnaaDoorRangeM
import Derived.Test.YtdmaeipiikknnaaDoorCarM
import Derived.Test.YtdmaeipiikknnaaDoorShf
import Derived.Test.YtdmaeipiikknnaaDoorNar
import Derived.Test.YtdmaeipiikknnaaDoorEnd
import Derived.Test.YtdmaeipiikknnaaDoorSlS
import Derived.Test.YtdmaeipiikknnaaDoorEnc
import Derived.Test.YtdmaeipiikknnaaDoorEncS
import Derived.Test.YtdmaeipiikknnaaDoorExL
import Derived.Test.YtdmaeipiikknnaaDoorOpnL
import Derived.Test.YtdmaeipiikknnaaDoorExB
import Derived.WalkKit
import Derived.ProofKit
import Derived.OpenShut
import Derived.ShutString
import Derived.LaidMore
import Derived.Stop.Joined
import Derived.Lib.LaidTab
import Derived.SevenTiedAt
import Derived.Lay
import Derived.Test.YtdmaeipiikknnaaDoorTie
import Derived.Test.YtdmaeipiikknnaaDoorCards
import Derived.ChangeOld
import Derived.Below
namespace Go.Proofs.YtdmaeipiikknnaaDoor.fnExactEncodeSlots
open Go.ChangeShapes Go.WideShapes Go.ChangeAt Go.RowKit
open Go.ChangeMaps (open_string shut_string)
set_option linter.unusedVariables false

theorem own : ownKnob Tryd.prog.godebug = none := by kernel_rfl
theorem laidOut : laidOutB Tryd.prog = true := by kernel_rfl

open Go.Proofs.YtdmaeipiikknnaaDoor.Num Go.Proofs.YtdmaeipiikknnaaDoor.Sli Go.Proofs.YtdmaeipiikknnaaDoor.App Go.Proofs.YtdmaeipiikknnaaDoor.Byt Go.Proofs.YtdmaeipiikknnaaDoor.Div Go.Proofs.YtdmaeipiikknnaaDoor.Dec Go.Proofs.YtdmaeipiikknnaaDoor.Blk Go.Proofs.YtdmaeipiikknnaaDoor.RangeM Go.Proofs.YtdmaeipiikknnaaDoor.SlS Go.Proofs.YtdmaeipiikknnaaDoor.Enc Go.Proofs.YtdmaeipiikknnaaDoor.EncS Go.Proofs.YtdmaeipiikknnaaDoor.ExL Go.Proofs.YtdmaeipiikknnaaDoor.ExB
theorem eL_len (ls : List Sl3) : (eL ls).length ≤ 1048576 := by
  rcases eC_cases ls with ⟨_, h⟩ | ⟨_, h, hl, hok⟩
  · rw [h]; simp
  · rw [h]
    have h1 := sns_ok (Nat.le_refl ls.length) hok
    rw [List.take_length] at h1
    have := encL_small h1 (by unfold sns; rw [List.length_map]; exact hl)
    omega
set_option maxHeartbeats 1000000 in
theorem walk (a0 : Option Addr) (cap0 : Nat) (x0 : List (Int × Int × Int)) (w : World) (s0 : Go.Proofs.YtdmaeipiikknnaaDoor.SlS.SlS w (.slice a0 x0.length cap0) x0) (m0 : x0.length ≤ maxLen) :
    Calls Tryd.prog 4 #[.slice a0 x0.length cap0] w fun e w' => e = .returned (.bool true) ∧ Below w.heap.size w w' := by
  have HS := hid s0
  clear s0
  by_cases hbig : 1048576 < x0.length
  · have HZ := hid (szSlotS_calls a0 x0.length cap0 w m0)
    rw [if_neg (by omega)] at HZ
    clear m0
    go_enter Tryd.func4, Tryd.ntmps4
    go_wp2_with fail
    refine HZ.out.mono ?_
    rintro e w1 ⟨rfl, rfl⟩
    go_wp2
    go_ret
    exact ⟨rfl, Below.refl _ _⟩
  · have hlen : x0.length ≤ 1048576 := by omega
    have hyl := eL_len x0
    have hz : 0 ≤ 1048576 - (x0.length : Int) := by omega
    have HZ := hid (szSlotS_calls a0 x0.length cap0 w m0)
    rw [if_pos (by omega)] at HZ
    clear m0
    go_enter Tryd.func4, Tryd.ntmps4
    go_wp2_with fail
    refine HZ.out.mono ?_
    rintro e w0 ⟨rfl, rfl⟩
    clear HZ
    go_wp2_with fail
    refine (toSlotS_calls _ x0 _ HS.out hlen).mono ?_
    rintro e w1 ⟨g1, rfl, ho1, hb1⟩
    go_wp2_with fail
    refine (specEnc_calls _ x0 _ ho1.sls hlen).mono ?_
    rintro e w2 ⟨W, rfl, hoW, hb2⟩
    have hW := hoW.sl
    have hb02 := bthen hb1 hb2
    have HW := hid hW
    have HB2 := hid hb02
    obtain ⟨aW, cW, rfl, _⟩ := hW
    clear ho1 hb1 hb2 hoW hb02
    go_wp2_with fail
    refine (toSlotS_calls _ x0 _ (HS.out.later (bmore HB2.out _)) hlen).mono ?_
    rintro e w3 ⟨g3, rfl, ho3, hb3⟩
    have HO3 := hid ho3
    have HB3 := hid hb3
    clear ho3 hb3
    go_wp2_with fail
    refine (implEnc_calls _ x0 _ HO3.out.sls hlen).mono ?_
    rintro e w4 ⟨G, rfl, hoG, hb4⟩
    obtain ⟨hK, _, _⟩ := ke_start (xs := []) HB2.out HW.out HB3.out (own_nil .u8 5 _ _) hb4 hoG (T := 27)
    have hox := OwS.later (OwS.later HO3.out hb4) (bmore (Below.refl _ _) (.cells #[.int .i64 (eC x0), G] 27))
    have hxb : w2.heap.size < g3 ∧ g3 < w3.heap.size := by have := OwS.block HO3.out; simp at this; omega
    have hG := hoG.sl
    obtain ⟨aG, cG, rfl, _⟩ := hG
    clear hb4 hoG HB2 HW HB3 HO3
    generalize w2.heap.size = A at *
    generalize w3.heap.size = Bx at *
    have hp0 := hK.p0
    have hp1 := hK.p1
    have HK := hid hK
    have HX := hid hxb
    have HOX := hid hox
    clear hK hxb hox
    go_wp2_with fail
    refine (eqBytesResult_calls _ _ _ _ _ HK.out.oG.sl HK.out.slW hyl).mono ?_
    rintro e w5 ⟨rfl, hb5⟩
    have HK5 := hid (HK.out.later hb5)
    have HOX5 := hid (OwS.later HOX.out hb5)
    have hq0 := HK5.out.q0
    have hq1 := HK5.out.q1
    have hp0 := HK5.out.p0
    have hp1 := HK5.out.p1
    generalize w4.heap.size = q at *
    clear HK HOX hb5
    go_wp2_with fail
    refine (toSlotS_calls _ x0 _ (HS.out.later HK5.out.bel) hlen).mono ?_
    rintro e w6 ⟨g6, rfl, ho6, hb6⟩
    have HK6 := hid (HK5.out.later hb6)
    have HOX6 := hid (OwS.later HOX5.out hb6)
    have HO6 := hid ho6
    clear HK5 HOX5 ho6 hb6 hp0 hp1 hq0 hq1
    go_wp2_with fail
    refine (eqSlotS_calls _ _ x0 _ HOX6.out.sls HO6.out.sls hlen).mono ?_
    rintro e w7 ⟨rfl, hb7⟩
    have HK7 := hid (HK6.out.later hb7)
    have HOX7 := hid (OwS.later HOX6.out hb7)
    clear HK6 HOX6 HO6 hb7
    go_wp2_with fail
    refine (markSlotS_calls _ _ _ x0 _ HOX7.out hlen).mono ?_
    rintro e w8 ⟨rfl, hg8⟩
    have HK8 := hid (HK7.out.mark hg8 (fun j e => by cases e; exact HX.out))
    have hq0 := HK8.out.q0
    have hq1 := HK8.out.q1
    have hp0 := HK8.out.p0
    have hp1 := HK8.out.p1
    have hmk : 0 ≤ 1 + 3 * (x0.length : Int) := by omega
    clear HK7 HOX7 HX hg8
    go_wp2_with fail
    refine (eqBytesResult_calls _ _ _ _ _ HK8.out.oG.sl HK8.out.slW hyl).mono ?_
    rintro e w9 ⟨rfl, hb9⟩
    have HK9 := hid (HK8.out.later hb9)
    have hq0 := HK9.out.q0
    have hq1 := HK9.out.q1
    have hp0 := HK9.out.p0
    have hp1 := HK9.out.p1
    clear HK8 hb9
    go_wp2_with fail
    refine (markBytesResult_calls _ _ _ _ _ 1 HK9.out.oG hyl (by omega)).mono ?_
    rintro e w10 ⟨rfl, ho10, hg10⟩
    have HK10 := hid (HK9.out.markG hg10 ho10)
    have hq0 := HK10.out.q0
    have hq1 := HK10.out.q1
    have hp0 := HK10.out.p0
    have hp1 := HK10.out.p1
    have hcast : (((1 + (eL x0).length : Nat) : Int)) = 1 + ((eL x0).length : Int) := by omega
    rw [hcast]
    have HC := hid hcast
    clear hcast HK9 hg10 ho10
    go_wp2_with fail
    refine (heldBytesResult_calls _ _ _ _ 1 HK10.out.oG.sl hyl (by omega)).mono ?_
    rintro e w11 ⟨rfl, hb11⟩
    have HK11 := hid (HK10.out.later hb11)
    have hq0 := HK11.out.q0
    have hq1 := HK11.out.q1
    have hp0 := HK11.out.p0
    have hp1 := HK11.out.p1
    rw [HC.out]
    clear HK10 hb11
    go_wp2_with fail
    refine (toSlotS_calls _ x0 _ (HS.out.later HK11.out.bel) hlen).mono ?_
    rintro e w12 ⟨g12, rfl, ho12, hb12⟩
    have HK12 := hid (HK11.out.later hb12)
    have HO12 := hid ho12
    clear HK11 ho12 hb12 hp0 hp1 hq0 hq1
    go_wp2_with fail
    refine (implEnc_calls _ x0 _ HO12.out.sls hlen).mono ?_
    rintro e w13 ⟨V, rfl, hoV, hb13⟩
    have hV := hoV.sl
    have HK13 := hid (HK12.out.later hb13)
    have HK14 := hid (HK13.out.later (bmore (Below.refl _ _) (.cells #[.int .i64 (eC x0), V] 27)))
    have HV := hid hV
    obtain ⟨aV, cV, rfl, _⟩ := hV
    have hp0 := HK13.out.p0
    have hp1 := HK13.out.p1
    have hpl : A < w13.heap.size := by have := HK13.out.l1; have := HK13.out.l2; have := HK13.out.l3; omega
    clear HK12 HO12 hoV hb13
    go_wp2_with fail
    refine (eqBytesResult_calls _ _ _ _ _ (HV.out.later (bmore (Below.refl _ _) _)) HK14.out.slW hyl).mono ?_
    rintro e w15 ⟨rfl, hb15⟩
    have HK15 := hid (HK14.out.later hb15)
    have hq0 := HK15.out.q0
    have hq1 := HK15.out.q1
    clear HK13 HK14 HV hb15 hp0 hp1 hpl
    go_wp2_with fail
    refine (heldBytesResult_calls _ _ _ _ 1 HK15.out.oG.sl hyl (by omega)).mono ?_
    rintro e w16 ⟨rfl, hb16⟩
    have HB := hid (bthen HK15.out.bel hb16)
    rw [HC.out]
    clear HK15 hb16 hq0 hq1
    go_wp2
    go_ret
    exact ⟨rfl, HB.out⟩

set_option maxRecDepth 100000 in
theorem lifted (os : Os) (started : os.Started) (H : Type) (enc : TypeId × Value → H) :
    ReturnsInHanded {} Tryd.checked os 4 .any (fun w args => (Rows.fnExactEncodeSlotsSpec.pre enc Tryd.prog Tryd.f4 [] false w args ∧ laidMetH Tryd.prog Rows.fnExactEncodeSlotsRow.laid w) ∧ sizedMet enc Tryd.prog Tryd.f4 (OpenSpec.ofChange Rows.fnExactEncodeSlotsSpec) false w args) (Rows.fnExactEncodeSlotsSpec.post enc Tryd.prog Tryd.f4 false true false false) := by
  refine returnsInHanded_of_change_and (C := Tryd.checked) (X := fun w _ => laidMetH Tryd.prog Rows.fnExactEncodeSlotsRow.laid w) (fun _ _ _ hh h => h.of_heap hh) own started (by kernel_rfl) Tryd.func4
    (ChangeSpec.witness_shaped (enc := enc) (C := Tryd.checked) (os := os) (X := fun w _ => laidMetH Tryd.prog Rows.fnExactEncodeSlotsRow.laid w) false (World.laidAll Tryd.prog os Rows.fnExactEncodeSlotsRow.laid) #[.slice none 0 0] 8 (World.laidAll_os _ _ _) (World.shaped_of_ZipB (by kernel_rfl) (by kernel_rfl)) (by kernel_rfl) (by kernel_rfl) (by kernel_rfl) (by rw [MakeChecks.laidMetH_plain _ _ _ (by kernel_rfl)]; exact laidMet_laidAll _ (by kernel_rfl) (by kernel_rfl))) ?_
  intro W base args ds gs before hval0 hW _ _ hL _
  have hval : ∀ (j : Nat) t v, Tryd.f4.params[j]? = some t → args[j]? = some v → Value.okWide Tryd.prog W .any base t v := hval0
  have hW' := hW
  obtain ⟨p, q, hA0, hV, rfl, hfz, hnd⟩ := hW
  have hA : DataW.TrodAll enc Tryd.prog W 0 (fun _ => true) true Tryd.f4.params.toList args.toList ds p := hA0
  rw [Tryd.params4] at hA hval
  obtain ⟨v0, vs0, d0, ds0, p0, q0, hargs, rfl, rfl, h0, rr0⟩ := trodAll_cons hA
  obtain ⟨rfl, rfl, rfl⟩ := trodAll_nil rr0
  obtain rfl : args = #[v0] := by cases args; simp_all
  obtain ⟨rfl, rfl⟩ := trodVars_none hV
  have k0 := h0
  have lt0 : ∀ x ∈ p0, x.block < W.heap.size := by obtain ⟨m, hm⟩ := k0; exact DataW.trod_lt m _ _ _ hm
  obtain ⟨a0, cap0, x0, rfl, s0, m0⟩ := Go.Proofs.YtdmaeipiikknnaaDoor.OpnL.open_slots (okWide_slice Tryd.underlying42 (hval 0 42 v0 rfl rfl)) h0
  clear hA0 hval0
  refine (walk a0 cap0 x0 W s0 m0).mono fun e W' ⟨he, bel⟩ => ?_
  subst he
  exact ⟨_, rfl, _, _, _, [], _, [], hW', trodAll_mk1 (shut_bool Tryd.underlying4 _), (trodAll_cons_mk (Below.trod laidOut (by kernel_rfl) (of_decide_eq_true (by kernel_rfl)) k0 bel lt0) trodAll_mk0), rfl, bel.frame _, fun h => by cases h⟩

theorem over : Rows.fnExactEncodeSlotsRow.holds Tryd.pinned (OpenSpec.ofChange Rows.fnExactEncodeSlotsSpec) :=
  OpenClaim.holds_of_wide 4 Tryd.f4 rfl rfl rfl rfl rfl rfl rfl ⟨rfl, rfl, rfl, rfl, rfl⟩ rfl rfl rfl rfl rfl (by kernel_rfl) Tryd.func4 (by kernel_rfl)
    (of_decide_eq_true (by kernel_rfl)) (by unfold Func.isWrapper; first | (rw [if_pos (by decide +kernel)]; kernel_rfl) | (rw [if_neg (by decide +kernel)]; exact ⟨rfl, rfl⟩))
    (fun os started H enc _ => lifted os started H enc)

theorem proved : Rows.FnExactEncodeSlotsCardSaid :=
  Claim7.holds_tied_plain_at .later [] [.data, .pinned] true (true, "b0e439142c0f22a359fd4e6c54222dd7c9684a88f523e1ae0366e1d9c2104c08") false
    over (fun _ h => by cases h) (by kernel_rfl) (fun _ h => by cases h) fnExactEncodeSlots_row_tie rfl ⟨rfl, rfl⟩ (by kernel_rfl) rfl
    (fun f fn hf hfn => by
      obtain rfl : f = 4 := Option.some.inj ((show Tryd.prog.funcNamed "loop.example/g00657/laws.FnExactEncodeSlots" = some 4 by kernel_rfl).symm.trans hf) |>.symm
      obtain rfl : fn = Tryd.f4 := (Option.some.inj (Tryd.func4.symm.trans hfn)).symm
      exact ⟨by kernel_rfl, fun j t ht => by
        rw [Tryd.params4] at ht
        have hm : t ∈ [42] := by simpa using Array.mem_of_getElem? ht
        have hall : ([42].all fun u => !Tryd.prog.wantsStandIn u) = true := by kernel_rfl
        exact (show Tryd.prog.wantsStandIn t = false by simpa using List.all_eq_true.1 hall t hm)⟩)
    (by kernel_rfl)
#print axioms proved
end Go.Proofs.YtdmaeipiikknnaaDoor.fnExactEncodeSlots
