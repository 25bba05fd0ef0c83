/- For every list of slots the program's CostOf answers as the model's does, code and value, and leaves its list as it was; nothing that was there turns. No conditions. -/
import Derived.Test.YtdmaeipiikknnaaDoorRows
import Derived.Test.YtdmaeipiikknnaaDoorNum
import Derived.Test.YtdmaeipiikknnaaDoorSli
import Derived.Test.YtdmaeipiikknnaaDoorApp
import Derived.Test.YtdmaeipiikknnaaDoorByt
import Derived.Test.YtdmaeipiikknnaaDoorCrcM
import Derived.Test.YtdmaeipiikknnaaDoorStr
import Derived.Test.YtdmaeipiikknnaaDoorDiv
import Derived.Test.YtdmaeipiikknnaaDoorDec
import Derived.Test.YtdmaeipiikknnaaDoorBlk
import Derived.Test.YtdmaeipiikknnaaDoorNxt
import Derived.Test.YtdmaeipiikknnaaDoorByte
import Derived.Test.YtdmaeipiikknnaaDoorTakS
import Derived.Test.YtdmaeipiikknnaaDoorTakT
import Derived.Test.YtdmaeipiikknnaaDoorRngF
import Derived.Test.YtdmaeipiikknnaaDoorRndF
import Derived.Test.YtdmaeipiikknnaaDoorRangeM
import Derived.Test.YtdmaeipiikknnaaDoorCarM
import Derived.Test.YtdmaeipiikknnaaDoorShf
import Derived.Test.YtdmaeipiikknnaaDoorNar
import Derived.Test.YtdmaeipiikknnaaDoorEnd
import Derived.Test.YtdmaeipiikknnaaDoorSlS
import Derived.Test.YtdmaeipiikknnaaDoorEnc
import Derived.Test.YtdmaeipiikknnaaDoorEncS
import Derived.Test.YtdmaeipiikknnaaDoorExL
import Derived.Test.YtdmaeipiikknnaaDoorOpnL
import Derived.WalkKit
import Derived.ProofKit
import Derived.OpenShut
import Derived.ShutString
import Derived.LaidMore
import Derived.Stop.Joined
import Derived.Lib.LaidTab
import Derived.SevenTiedAt
import Derived.Lay
import Derived.Test.YtdmaeipiikknnaaDoorTie
import Derived.Test.YtdmaeipiikknnaaDoorCards
import Derived.ChangeOld
import Derived.Below
namespace Go.Proofs.YtdmaeipiikknnaaDoor.fnExactCostOf
open Go.ChangeShapes Go.WideShapes Go.ChangeAt Go.RowKit
open Go.ChangeMaps (open_string shut_string)
set_option linter.unusedVariables false

theorem own : ownKnob Tryd.prog.godebug = none := by kernel_rfl
theorem laidOut : laidOutB Tryd.prog = true := by kernel_rfl

open Go.Proofs.YtdmaeipiikknnaaDoor.Num Go.Proofs.YtdmaeipiikknnaaDoor.Sli Go.Proofs.YtdmaeipiikknnaaDoor.App Go.Proofs.YtdmaeipiikknnaaDoor.Byt Go.Proofs.YtdmaeipiikknnaaDoor.Div Go.Proofs.YtdmaeipiikknnaaDoor.Dec Go.Proofs.YtdmaeipiikknnaaDoor.Blk Go.Proofs.YtdmaeipiikknnaaDoor.SlS Go.Proofs.YtdmaeipiikknnaaDoor.Enc Go.Proofs.YtdmaeipiikknnaaDoor.EncS Go.Proofs.YtdmaeipiikknnaaDoor.ExL
set_option maxHeartbeats 1000000 in
theorem walk (a0 : Option Addr) (cap0 : Nat) (x0 : List (Int × Int × Int)) (w : World) (s0 : Go.Proofs.YtdmaeipiikknnaaDoor.SlS.SlS w (.slice a0 x0.length cap0) x0) (m0 : x0.length ≤ maxLen) :
    Calls Tryd.prog 5 #[.slice a0 x0.length cap0] w fun e w' => e = .returned (.bool true) ∧ Below w.heap.size w w' := by
  have HS := hid s0
  clear s0
  by_cases hbig : x0.length ≤ 1048576
  · have hz : 0 ≤ 1048576 - (x0.length : Int) := by omega
    have HZ := hid (szSlotS_calls a0 x0.length cap0 w m0)
    rw [if_pos hbig] at HZ
    clear m0
    go_enter Tryd.func5, Tryd.ntmps5
    go_wp2_with fail
    refine HZ.out.mono ?_
    rintro e w1 ⟨rfl, rfl⟩
    clear HZ
    go_wp2_with fail
    refine (toSlotS_calls _ x0 _ HS.out hbig).mono ?_
    rintro e w2 ⟨g2, rfl, ho2, hb2⟩
    have HL2 := hid hb2
    have hz2 := hb2.size
    have HC := hid (specCost_calls _ x0 w2 ho2.sls hbig)
    clear ho2 hb2
    go_wp2_with fail
    refine HC.out.mono ?_
    rintro e w3 ⟨rfl, hb3⟩
    have HL3 := hid (bmore (bthen HL2.out hb3) (.cells #[.int .i64 (eC x0), .int .i64 (eL x0).length] 30))
    have HR3 := hid (Blk.new w3 #[.int .i64 (eC x0), .int .i64 (eL x0).length] 30)
    clear hb3 HL2 HC hz2
    generalize hc : eC x0 = c at *
    generalize hn : (eL x0).length = n at *
    have HG := hid (And.intro hc hn)
    clear hc hn
    go_wp2_with fail
    refine (toSlotS_calls _ x0 _ (HS.out.later HL3.out) hbig).mono ?_
    rintro e w4 ⟨g4, rfl, ho4, hb4⟩
    have HL4 := hid (bthen HL3.out hb4)
    have HR4 := hid (HR3.out.later hb4)
    have HO4 := hid ho4
    have HC := hid (implCost_calls _ x0 w4 ho4.sls hbig)
    rw [HG.out.1, HG.out.2] at HC
    clear ho4 hb4 HL3 HR3
    go_wp2_with fail
    refine HC.out.mono ?_
    rintro e w5 ⟨rfl, hb5⟩
    have HL5 := hid (bmore (bthen HL4.out hb5) (.cells #[.int .i64 c, .int .i64 n] 30))
    have HR5 := hid ((HR4.out.later hb5).alloc (.cells #[.int .i64 c, .int .i64 n] 30))
    have HO5 := hid (OwS.later HO4.out (bmore hb5 (.cells #[.int .i64 c, .int .i64 n] 30)))
    clear hb5 HL4 HR4 HO4 HC
    obtain ⟨d0, d1, _⟩ := HR5.out.two
    go_wp2_with fail
    refine (eqIntResult_calls _ _ _).mono ?_
    rintro e w6 ⟨rfl, hb6⟩
    have HL6 := hid (bthen HL5.out hb6)
    have HO6 := hid (OwS.later HO5.out hb6)
    clear hb6 HL5 HR5 HO5 d0 d1
    go_wp2_with fail
    refine (toSlotS_calls _ x0 _ (HS.out.later HL6.out) hbig).mono ?_
    rintro e w7 ⟨g7, rfl, ho7, hb7⟩
    have HL7 := hid (bthen HL6.out hb7)
    have HE := hid (eqSlotS_calls _ _ x0 w7 (OwS.later HO6.out hb7).sls ho7.sls hbig)
    clear ho7 hb7 HL6 HO6
    go_wp2_with fail
    refine HE.out.mono ?_
    rintro e w8 ⟨rfl, hb8⟩
    have HL8 := hid (bthen HL7.out hb8)
    clear hb8 HL7 HE
    go_wp2
    go_ret
    exact ⟨rfl, HL8.out⟩
  · have HZ := hid (szSlotS_calls a0 x0.length cap0 w m0)
    rw [if_neg hbig] at HZ
    clear m0
    go_enter Tryd.func5, Tryd.ntmps5
    go_wp2_with fail
    refine HZ.out.mono ?_
    rintro e w1 ⟨rfl, rfl⟩
    go_wp2
    go_ret
    exact ⟨rfl, Below.refl _ _⟩

set_option maxRecDepth 100000 in
theorem lifted (os : Os) (started : os.Started) (H : Type) (enc : TypeId × Value → H) :
    ReturnsInHanded {} Tryd.checked os 5 .any (fun w args => (Rows.fnExactCostOfSpec.pre enc Tryd.prog Tryd.f5 [] false w args ∧ laidMetH Tryd.prog Rows.fnExactCostOfRow.laid w) ∧ sizedMet enc Tryd.prog Tryd.f5 (OpenSpec.ofChange Rows.fnExactCostOfSpec) false w args) (Rows.fnExactCostOfSpec.post enc Tryd.prog Tryd.f5 false true false false) := by
  refine returnsInHanded_of_change_and (C := Tryd.checked) (X := fun w _ => laidMetH Tryd.prog Rows.fnExactCostOfRow.laid w) (fun _ _ _ hh h => h.of_heap hh) own started (by kernel_rfl) Tryd.func5
    (ChangeSpec.witness_shaped (enc := enc) (C := Tryd.checked) (os := os) (X := fun w _ => laidMetH Tryd.prog Rows.fnExactCostOfRow.laid w) false (World.laidAll Tryd.prog os Rows.fnExactCostOfRow.laid) #[.slice none 0 0] 8 (World.laidAll_os _ _ _) (World.shaped_of_ZipB (by kernel_rfl) (by kernel_rfl)) (by kernel_rfl) (by kernel_rfl) (by kernel_rfl) (by rw [MakeChecks.laidMetH_plain _ _ _ (by kernel_rfl)]; exact laidMet_laidAll _ (by kernel_rfl) (by kernel_rfl))) ?_
  intro W base args ds gs before hval0 hW _ _ hL _
  have hval : ∀ (j : Nat) t v, Tryd.f5.params[j]? = some t → args[j]? = some v → Value.okWide Tryd.prog W .any base t v := hval0
  have hW' := hW
  obtain ⟨p, q, hA0, hV, rfl, hfz, hnd⟩ := hW
  have hA : DataW.TrodAll enc Tryd.prog W 0 (fun _ => true) true Tryd.f5.params.toList args.toList ds p := hA0
  rw [Tryd.params5] at hA hval
  obtain ⟨v0, vs0, d0, ds0, p0, q0, hargs, rfl, rfl, h0, rr0⟩ := trodAll_cons hA
  obtain ⟨rfl, rfl, rfl⟩ := trodAll_nil rr0
  obtain rfl : args = #[v0] := by cases args; simp_all
  obtain ⟨rfl, rfl⟩ := trodVars_none hV
  have k0 := h0
  have lt0 : ∀ x ∈ p0, x.block < W.heap.size := by obtain ⟨m, hm⟩ := k0; exact DataW.trod_lt m _ _ _ hm
  obtain ⟨a0, cap0, x0, rfl, s0, m0⟩ := Go.Proofs.YtdmaeipiikknnaaDoor.OpnL.open_slots (okWide_slice Tryd.underlying42 (hval 0 42 v0 rfl rfl)) h0
  clear hA0 hval0
  refine (walk a0 cap0 x0 W s0 m0).mono fun e W' ⟨he, bel⟩ => ?_
  subst he
  exact ⟨_, rfl, _, _, _, [], _, [], hW', trodAll_mk1 (shut_bool Tryd.underlying4 _), (trodAll_cons_mk (Below.trod laidOut (by kernel_rfl) (of_decide_eq_true (by kernel_rfl)) k0 bel lt0) trodAll_mk0), rfl, bel.frame _, fun h => by cases h⟩

theorem over : Rows.fnExactCostOfRow.holds Tryd.pinned (OpenSpec.ofChange Rows.fnExactCostOfSpec) :=
  OpenClaim.holds_of_wide 5 Tryd.f5 rfl rfl rfl rfl rfl rfl rfl ⟨rfl, rfl, rfl, rfl, rfl⟩ rfl rfl rfl rfl rfl (by kernel_rfl) Tryd.func5 (by kernel_rfl)
    (of_decide_eq_true (by kernel_rfl)) (by unfold Func.isWrapper; first | (rw [if_pos (by decide +kernel)]; kernel_rfl) | (rw [if_neg (by decide +kernel)]; exact ⟨rfl, rfl⟩))
    (fun os started H enc _ => lifted os started H enc)

theorem proved : Rows.FnExactCostOfCardSaid :=
  Claim7.holds_tied_plain_at .later [] [.data, .pinned] true (true, "b0e439142c0f22a359fd4e6c54222dd7c9684a88f523e1ae0366e1d9c2104c08") false
    over (fun _ h => by cases h) (by kernel_rfl) (fun _ h => by cases h) fnExactCostOf_row_tie rfl ⟨rfl, rfl⟩ (by kernel_rfl) rfl
    (fun f fn hf hfn => by
      obtain rfl : f = 5 := Option.some.inj ((show Tryd.prog.funcNamed "loop.example/g00657/laws.FnExactCostOf" = some 5 by kernel_rfl).symm.trans hf) |>.symm
      obtain rfl : fn = Tryd.f5 := (Option.some.inj (Tryd.func5.symm.trans hfn)).symm
      exact ⟨by kernel_rfl, fun j t ht => by
        rw [Tryd.params5] at ht
        have hm : t ∈ [42] := by simpa using Array.mem_of_getElem? ht
        have hall : ([42].all fun u => !Tryd.prog.wantsStandIn u) = true := by kernel_rfl
        exact (show Tryd.prog.wantsStandIn t = false by simpa using List.all_eq_true.1 hall t hm)⟩)
    (by kernel_rfl)
#print axioms proved
end Go.Proofs.YtdmaeipiikknnaaDoor.fnExactCostOf
