/- For every decoder the program's DecoderFault answers as the model's does and leaves its decoder as it was; nothing that was there turns. No conditions. -/
import Derived.Test.YtdmaeipiikknnaaRows
import Derived.Test.YtdmaeipiikknnaaNum
import Derived.Test.YtdmaeipiikknnaaSli
import Derived.Test.YtdmaeipiikknnaaApp
import Derived.Test.YtdmaeipiikknnaaByt
import Derived.Test.YtdmaeipiikknnaaCrcM
import Derived.Test.YtdmaeipiikknnaaStr
import Derived.Test.YtdmaeipiikknnaaDiv
import Derived.Test.YtdmaeipiikknnaaDec
import Derived.Test.YtdmaeipiikknnaaBlk
import Derived.Test.YtdmaeipiikknnaaNxt
import Derived.Test.YtdmaeipiikknnaaByte
import Derived.Test.YtdmaeipiikknnaaTakS
import Derived.Test.YtdmaeipiikknnaaTakT
import Derived.Test.YtdmaeipiikknnaaExD
import Derived.Test.YtdmaeipiikknnaaOpnD
import Derived.WalkKit
import Derived.ProofKit
import Derived.OpenShut
import Derived.ShutString
import Derived.ChangeOld
import Derived.Below
namespace Go.Proofs.Ytdmaeipiikknnaa.fnExactDecoderFault
open Go.ChangeShapes Go.WideShapes Go.ChangeAt Go.RowKit
open Go.ChangeMaps (open_string shut_string)
set_option linter.unusedVariables false

theorem own : ownKnob Try.prog.godebug = none := by kernel_rfl
theorem laidOut : laidOutB Try.prog = true := by kernel_rfl

open Go.Proofs.Ytdmaeipiikknnaa.Num Go.Proofs.Ytdmaeipiikknnaa.Sli Go.Proofs.Ytdmaeipiikknnaa.App Go.Proofs.Ytdmaeipiikknnaa.Byt Go.Proofs.Ytdmaeipiikknnaa.CrcM Go.Proofs.Ytdmaeipiikknnaa.Div Go.Proofs.Ytdmaeipiikknnaa.Dec Go.Proofs.Ytdmaeipiikknnaa.Blk Go.Proofs.Ytdmaeipiikknnaa.Nxt Go.Proofs.Ytdmaeipiikknnaa.TakS Go.Proofs.Ytdmaeipiikknnaa.TakT Go.Proofs.Ytdmaeipiikknnaa.ExD
set_option maxHeartbeats 1000000 in
theorem walk (a0 : Option Addr) (cap0 : Nat) (x0 : List Int) (u0 v0 r0 : Int) (w : World) (s0 : Go.Proofs.Ytdmaeipiikknnaa.Sli.Sl .u8 w (.slice a0 x0.length cap0) x0) (b0 : Go.Proofs.Ytdmaeipiikknnaa.CrcM.BytesL x0) (m0 : x0.length ≤ maxLen) :
    Calls Try.prog 5 #[.agg #[.slice a0 x0.length cap0, .int .i64 u0, .int .i64 v0, .int .i64 r0]] w fun e w' => e = .returned (.bool true) ∧ Below w.heap.size w w' := by
  have HP := hid (pd_new u0 v0 r0 42 s0)
  obtain ⟨c0, c1, c2, c3, _⟩ := HP.out.p.four
  by_cases hbig : (x0.length : Int) ≤ 1048576
  · have hlen : x0.length ≤ 1048576 := by omega
    go_enter Try.func5, Try.ntmps5
    go_wp2_with fail
    refine (szDecoder_calls _ _ _ _ _ _ _ _ m0 (by omega) (by omega)).mono ?_
    rintro e w1 ⟨rfl, hb⟩
    rw [szV_yes hbig]
    have HP1 := hid (HP.out.later hb)
    have hz : 0 ≤ 1048576 - (x0.length : Int) := by omega
    clear hb HP c0 c1 c2 c3
    obtain ⟨c0, c1, c2, c3, _⟩ := HP1.out.p.four
    go_wp2_with fail
    refine (toDecoder_calls _ x0 _ _ _ _ HP1.out.s hlen).mono ?_
    rintro e w2 ⟨g2, rfl, ho, hb⟩
    have HP2 := hid (HP1.out.later hb)
    clear hb HP1 c0 c1 c2 c3 ho
    go_wp2_with fail
    refine (specDF_calls _ _ _ _ _ _ _ hlen).mono ?_
    rintro e w3 ⟨rfl, hb⟩
    have HP3 := hid (HP2.out.later hb)
    clear hb HP2
    obtain ⟨c0, c1, c2, c3, _⟩ := HP3.out.p.four
    go_wp2_with fail
    refine (toDecoder_calls _ x0 _ _ _ _ HP3.out.s hlen).mono ?_
    rintro e w4 ⟨g4, rfl, ho, hb⟩
    have HP4 := hid ((HP3.out.later hb).alloc (.cells #[.slice (some ⟨g4, 0, none⟩) x0.length x0.length, .int .i64 u0, .int .i64 v0, .int .i64 r0] 25))
    have HX4 : Hid (PD w w4.heap.size (some ⟨g4, 0, none⟩) x0.length x0 u0 v0 r0 25 (w4.alloc (.cells #[.slice (some ⟨g4, 0, none⟩) x0.length x0.length, .int .i64 u0, .int .i64 v0, .int .i64 r0] 25))) := ⟨Blk.new _ _ _, ho.sl.later (bmore (Below.refl _ _) _), HP4.out.l⟩
    clear hb HP3 ho c0 c1 c2 c3
    go_wp2_with fail
    refine (implDF_calls _ _ _ _ _ _ _ hlen).mono ?_
    rintro e w6 ⟨rfl, hb⟩
    have hHK : PD w w.heap.size a0 cap0 x0 u0 v0 r0 42 w6.drew ∧ PD w w4.heap.size (some ⟨g4, 0, none⟩) x0.length x0 u0 v0 r0 25 w6.drew := ⟨(HP4.out.later hb).drew, (HX4.out.later hb).drew⟩
    clear hb HP4 HX4
    generalize w4.heap.size = B4 at *
    generalize dF x0.length u0 v0 r0 = c at *
    go_wp2_with fail
    refine wp_region_noPanic ?_
    refine wp_region_held_drew (S := fun W => PD w w.heap.size a0 cap0 x0 u0 v0 r0 42 W ∧ PD w B4 (some ⟨g4, 0, none⟩) x0.length x0 u0 v0 r0 25 W) (by kernel_rfl) ?_ (fun hHeld => ?_)
    · assumption
    (refine wpAnyH_take (i := 0) (v := ?_) rfl (by kernel_rfl) (by kernel_rfl) (by kernel_rfl) (fun _ _ _ h => h) (Or.inl ⟨by rfl, ?_⟩) hHeld ?_; rotate_left; (intro w hSw; (obtain ⟨c0, c1, c2, c3, _⟩ := hSw.1.p.four; obtain ⟨d0, d1, d2, d3, _⟩ := hSw.2.p.four; clear hSw); (go_simp <;> with_reducible rfl)); simp only [List.getElem_toArray, List.getElem_cons_zero, Act.put, List.setIfInBounds_toArray, List.set_cons_zero, List.set_cons_succ])
    (refine wpAnyH_take (i := 1) (v := ?_) rfl (by kernel_rfl) (by kernel_rfl) (by kernel_rfl) (fun _ _ _ h => h) (Or.inl ⟨by rfl, ?_⟩) hHeld ?_; rotate_left; (intro w hSw; (obtain ⟨c0, c1, c2, c3, _⟩ := hSw.1.p.four; obtain ⟨d0, d1, d2, d3, _⟩ := hSw.2.p.four; clear hSw); (go_simp <;> with_reducible rfl)); simp only [List.getElem_toArray, List.getElem_cons_zero, List.getElem_cons_succ, Act.put, List.setIfInBounds_toArray, List.set_cons_zero, List.set_cons_succ])
    (refine wpAnyH_ready (rs := [2]) (by kernel_rfl) (by simp) ?_; refine AllReadyH.cons rfl (fun K hK => ?_) AllReadyH.nil; go_simp; (refine (toDecoder_calls _ x0 _ _ _ _ hHeld.1.s hlen).mono ?_; rintro e w7 ⟨g7, rfl, ho7, hb7⟩; have hK' := And.intro (hHeld.1.later hb7) (hHeld.2.later hb7)); refine hK.out _ _ ?_ (fun hHeld => ?_); (assumption); clear hK K; try simp only [List.getElem_toArray, List.getElem_cons_zero, List.getElem_cons_succ, Act.put, List.setIfInBounds_toArray, List.set_cons_zero, List.set_cons_succ])
    (refine wpAnyH_ready (rs := [3]) (by kernel_rfl) (by simp) ?_; refine AllReadyH.cons rfl (fun K hK => ?_) AllReadyH.nil; go_simp; (refine (eqDecoder_calls _ _ x0 _ _ _ _ hHeld.2.s ho7.sl hlen).mono ?_; rintro e w8 ⟨rfl, hb8⟩; have hK'' := And.intro (hHeld.1.later hb8) (hHeld.2.later hb8)); refine hK.out _ _ ?_ (fun hHeld => ?_); (assumption); clear hK K; try simp only [List.getElem_toArray, List.getElem_cons_zero, List.getElem_cons_succ, Act.put, List.setIfInBounds_toArray, List.set_cons_zero, List.set_cons_succ])
    (refine wpAnyH_take (i := 4) (v := ?_) rfl (by kernel_rfl) (by kernel_rfl) (by kernel_rfl) (fun _ _ _ h => h) (Or.inl ⟨by rfl, ?_⟩) hHeld ?_; rotate_left; (intro w hSw; (obtain ⟨c0, c1, c2, c3, _⟩ := hSw.1.p.four; obtain ⟨d0, d1, d2, d3, _⟩ := hSw.2.p.four; clear hSw); (go_simp <;> with_reducible rfl)); simp only [List.getElem_toArray, List.getElem_cons_zero, List.getElem_cons_succ, Act.put, List.setIfInBounds_toArray, List.set_cons_zero, List.set_cons_succ])
    refine wpAnyH_done (by kernel_rfl) ?_ _
    refine NoPanic.normal ?_
    have HL := hid hHeld.1.l
    clear hHeld
    go_wp2
    go_ret
    exact ⟨rfl, HL.out⟩
  · go_enter Try.func5, Try.ntmps5
    go_wp2_with fail
    refine (szDecoder_calls _ _ _ _ _ _ _ _ m0 (by omega) (by omega)).mono ?_
    rintro e w1 ⟨rfl, hb⟩
    rw [szV_no (by omega)]
    have HL := hid (HP.out.later hb).l
    clear hb HP c0 c1 c2 c3
    go_wp2
    go_ret
    exact ⟨rfl, HL.out⟩

set_option maxRecDepth 100000 in
theorem lifted (os : Os) (started : os.Started) (H : Type) (enc : TypeId × Value → H) :
    ReturnsInHanded {} Try.checked os 5 .any (Rows.fnExactDecoderFaultSpec.pre6 enc Try.prog Try.f5 Rows.fnExactDecoderFaultRow.domain false) (Rows.fnExactDecoderFaultSpec.post enc Try.prog Try.f5 false true false false) := by
  refine returnsInHanded_of_change (C := Try.checked) own started (by kernel_rfl) Try.func5
    (ChangeSpec.witness6 (enc := enc) (C := Try.checked) false ⟨#[], #[.agg #[.slice none 0 0, .int .i64 0, .int .i64 0, .int .i64 0]], []⟩ 8 (by kernel_rfl) (by kernel_rfl) (by kernel_rfl) (by kernel_rfl)) ?_
  intro W base args ds gs before hval0 hW hcnd _
  have hval : ∀ (j : Nat) t v, Try.f5.params[j]? = some t → args[j]? = some v → Value.okWide Try.prog W .any base t v := hval0
  have hW' := hW
  obtain ⟨p, q, hA0, hV, rfl, hfz, hnd⟩ := hW
  have hA : DataW.TrodAll enc Try.prog W 0 (fun _ => true) true Try.f5.params.toList args.toList ds p := hA0
  rw [Try.params5] at hA hval
  obtain ⟨v0, vs0, d0, ds0, p0, q0, hargs, rfl, rfl, h0, rr0⟩ := trodAll_cons hA
  obtain ⟨rfl, rfl, rfl⟩ := trodAll_nil rr0
  obtain rfl : args = #[v0] := by cases args; simp_all
  obtain ⟨rfl, rfl⟩ := trodVars_none hV
  have k0 := h0
  have lt0 : ∀ x ∈ p0, x.block < W.heap.size := by obtain ⟨m, hm⟩ := k0; exact DataW.trod_lt m _ _ _ hm
  obtain ⟨cs0, rfl, hc0⟩ := okWide_struct Try.underlying42 (hval 0 42 v0 rfl rfl)
  obtain ⟨a0, cap0, x0, u0, v0, r0, rfl, s0, b0, m0⟩ := Go.Proofs.Ytdmaeipiikknnaa.OpnD.open_dec hc0 h0
  clear hA0 hval0
  refine (walk a0 cap0 x0 u0 v0 r0 W s0 b0 m0).mono fun e W' ⟨he, bel⟩ => ?_
  subst he
  exact ⟨_, rfl, _, _, _, [], _, [], hW', trodAll_mk1 (shut_bool Try.underlying4 _), (trodAll_cons_mk (Below.trod laidOut (by kernel_rfl) (of_decide_eq_true (by kernel_rfl)) k0 bel lt0) trodAll_mk0), rfl, bel.frame _, fun h => by cases h⟩

theorem over : Rows.fnExactDecoderFaultRow.holds Try.pinned (OpenSpec.ofChange Rows.fnExactDecoderFaultSpec) :=
  OpenClaim.holds_of_wide 5 Try.f5 rfl rfl rfl rfl rfl rfl rfl ⟨rfl, rfl, rfl, rfl, rfl⟩ rfl rfl rfl rfl rfl (by kernel_rfl) Try.func5 (by kernel_rfl)
    (of_decide_eq_true (by kernel_rfl)) (by unfold Func.isWrapper; first | (rw [if_pos (by decide +kernel)]; kernel_rfl) | (rw [if_neg (by decide +kernel)]; exact ⟨rfl, rfl⟩))
    (fun os started H enc _ => lifted os started H enc)

theorem proved : Rows.FnExactDecoderFaultSaid := over
#print axioms proved
end Go.Proofs.Ytdmaeipiikknnaa.fnExactDecoderFault
