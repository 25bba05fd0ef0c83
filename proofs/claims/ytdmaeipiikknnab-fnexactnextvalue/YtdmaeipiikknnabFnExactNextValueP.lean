/- For every decoder and every number the program's NextValue answers as the model's does, code and value, and leaves its decoder as it was; nothing that was there turns. No conditions. -/
import Derived.Test.YtdmaeipiikknnabRows
import Derived.Test.YtdmaeipiikknnabNum
import Derived.Test.YtdmaeipiikknnabSli
import Derived.Test.YtdmaeipiikknnabApp
import Derived.Test.YtdmaeipiikknnabByt
import Derived.Test.YtdmaeipiikknnabCrcM
import Derived.Test.YtdmaeipiikknnabStr
import Derived.Test.YtdmaeipiikknnabDiv
import Derived.Test.YtdmaeipiikknnabDec
import Derived.Test.YtdmaeipiikknnabBlk
import Derived.Test.YtdmaeipiikknnabNxt
import Derived.Test.YtdmaeipiikknnabByte
import Derived.Test.YtdmaeipiikknnabTakS
import Derived.Test.YtdmaeipiikknnabTakT
import Derived.Test.YtdmaeipiikknnabExD
import Derived.Test.YtdmaeipiikknnabOpnD
import Derived.WalkKit
import Derived.ProofKit
import Derived.OpenShut
import Derived.ShutString
import Derived.ChangeOld
import Derived.Below
namespace Go.Proofs.Ytdmaeipiikknnab.fnExactNextValue
open Go.ChangeShapes Go.WideShapes Go.ChangeAt Go.RowKit
open Go.ChangeMaps (open_string shut_string)
set_option linter.unusedVariables false

theorem own : ownKnob Try.prog.godebug = none := by kernel_rfl
theorem laidOut : laidOutB Try.prog = true := by kernel_rfl

open Go.Proofs.Ytdmaeipiikknnab.Num Go.Proofs.Ytdmaeipiikknnab.Sli Go.Proofs.Ytdmaeipiikknnab.App Go.Proofs.Ytdmaeipiikknnab.Byt Go.Proofs.Ytdmaeipiikknnab.CrcM Go.Proofs.Ytdmaeipiikknnab.Div Go.Proofs.Ytdmaeipiikknnab.Dec Go.Proofs.Ytdmaeipiikknnab.Blk Go.Proofs.Ytdmaeipiikknnab.Nxt Go.Proofs.Ytdmaeipiikknnab.TakS Go.Proofs.Ytdmaeipiikknnab.TakT Go.Proofs.Ytdmaeipiikknnab.ExD
set_option maxHeartbeats 1000000 in
theorem walk (a0 : Option Addr) (cap0 : Nat) (x0 : List Int) (u0 v0 r0 : Int) (a1 : Int) (w : World) (s0 : Go.Proofs.Ytdmaeipiikknnab.Sli.Sl .u8 w (.slice a0 x0.length cap0) x0) (b0 : Go.Proofs.Ytdmaeipiikknnab.CrcM.BytesL x0) (m0 : x0.length ≤ maxLen) (w1 : (Lit.int .i64 a1).wf = true) :
    Calls Try.prog 4 #[.agg #[.slice a0 x0.length cap0, .int .i64 u0, .int .i64 v0, .int .i64 r0], .int .i64 a1] w fun e w' => e = .returned (.bool true) ∧ Below w.heap.size w w' := by
  have HP := hid (pd_new u0 v0 r0 34 s0)
  obtain ⟨c0, c1, c2, c3, _⟩ := HP.out.p.four
  by_cases hbig : (x0.length : Int) ≤ 1048576
  · have hlen : x0.length ≤ 1048576 := by omega
    go_enter Try.func4, Try.ntmps4
    go_wp2_with fail
    refine (szDecoder_calls _ _ _ _ _ _ _ _ m0 (by omega) (by omega)).mono ?_
    rintro e w1 ⟨rfl, hb⟩
    rw [szV_yes hbig]
    have HP1 := hid (HP.out.later hb)
    have hz : 0 ≤ 1048576 - (x0.length : Int) := by omega
    clear hb HP c0 c1 c2 c3
    obtain ⟨c0, c1, c2, c3, _⟩ := HP1.out.p.four
    go_wp2_with fail
    refine (toDecoder_calls _ x0 _ _ _ _ HP1.out.s hlen).mono ?_
    rintro e w2 ⟨g2, rfl, ho, hb⟩
    have HP2 := hid (HP1.out.later hb)
    clear hb HP1 c0 c1 c2 c3
    go_wp2_with fail
    refine (specNext_calls _ _ _ _ _ _ _ _ hlen).mono ?_
    rintro e w3 ⟨rfl, hb⟩
    have HP3 := hid ((HP2.out.later hb).alloc (.cells #[.int .i64 (nC x0.length u0 v0 r0 a1), .int .i64 (nO x0.length u0 v0 r0 a1)] 37))
    have HR3 := hid (Blk.new w3 #[.int .i64 (nC x0.length u0 v0 r0 a1), .int .i64 (nO x0.length u0 v0 r0 a1)] 37)
    clear hb HP2 ho
    obtain ⟨c0, c1, c2, c3, _⟩ := HP3.out.p.four
    go_wp2_with fail
    refine (toDecoder_calls _ x0 _ _ _ _ HP3.out.s hlen).mono ?_
    rintro e w4 ⟨g4, rfl, ho, hb⟩
    have HP4 := hid ((HP3.out.later hb).alloc (.cells #[.slice (some ⟨g4, 0, none⟩) x0.length x0.length, .int .i64 u0, .int .i64 v0, .int .i64 r0] 24))
    have HR4 := hid ((HR3.out.later hb).alloc (.cells #[.slice (some ⟨g4, 0, none⟩) x0.length x0.length, .int .i64 u0, .int .i64 v0, .int .i64 r0] 24))
    have HX4 : Hid (PD w w4.heap.size (some ⟨g4, 0, none⟩) x0.length x0 u0 v0 r0 24 (w4.alloc (.cells #[.slice (some ⟨g4, 0, none⟩) x0.length x0.length, .int .i64 u0, .int .i64 v0, .int .i64 r0] 24))) := ⟨Blk.new _ _ _, ho.sl.later (bmore (Below.refl _ _) _), HP4.out.l⟩
    clear hb HP3 HR3 ho c0 c1 c2 c3
    go_wp2_with fail
    refine (implNext_calls _ _ _ _ _ _ _ _ hlen).mono ?_
    rintro e w5 ⟨rfl, hb⟩
    have HP5 := hid ((HP4.out.later hb).alloc (.cells #[.int .i64 (nC x0.length u0 v0 r0 a1), .int .i64 (nO x0.length u0 v0 r0 a1)] 37))
    have HR5 := hid ((HR4.out.later hb).alloc (.cells #[.int .i64 (nC x0.length u0 v0 r0 a1), .int .i64 (nO x0.length u0 v0 r0 a1)] 37))
    have HX5 := hid ((HX4.out.later hb).alloc (.cells #[.int .i64 (nC x0.length u0 v0 r0 a1), .int .i64 (nO x0.length u0 v0 r0 a1)] 37))
    clear hb HP4 HR4 HX4
    obtain ⟨d0, d1, _⟩ := HR5.out.two
    go_wp2_with fail
    refine (eqIntResult_calls _ _ _).mono ?_
    rintro e w6 ⟨rfl, hb⟩
    have HP6 := hid (HP5.out.later hb)
    have HX6 := hid (HX5.out.later hb)
    clear hb HP5 HR5 HX5 d0 d1
    generalize w4.heap.size = B4 at *
    have hHK : PD w w.heap.size a0 cap0 x0 u0 v0 r0 34 w6.drew ∧ PD w B4 (some ⟨g4, 0, none⟩) x0.length x0 u0 v0 r0 24 w6.drew := ⟨HP6.out.drew, HX6.out.drew⟩
    clear HP6 HX6
    go_wp2_with fail
    refine wp_region_noPanic ?_
    refine wp_region_held_drew (S := fun W => PD w w.heap.size a0 cap0 x0 u0 v0 r0 34 W ∧ PD w B4 (some ⟨g4, 0, none⟩) x0.length x0 u0 v0 r0 24 W) (by kernel_rfl) ?_ (fun hHeld => ?_)
    · assumption
    (refine wpAnyH_take (i := 0) (v := ?_) rfl (by kernel_rfl) (by kernel_rfl) (by kernel_rfl) (fun _ _ _ h => h) (Or.inl ⟨by rfl, ?_⟩) hHeld ?_; rotate_left; (intro w hSw; (obtain ⟨c0, c1, c2, c3, _⟩ := hSw.1.p.four; obtain ⟨d0, d1, d2, d3, _⟩ := hSw.2.p.four; clear hSw); (go_simp <;> with_reducible rfl)); simp only [List.getElem_toArray, List.getElem_cons_zero, Act.put, List.setIfInBounds_toArray, List.set_cons_zero, List.set_cons_succ])
    (refine wpAnyH_take (i := 1) (v := ?_) rfl (by kernel_rfl) (by kernel_rfl) (by kernel_rfl) (fun _ _ _ h => h) (Or.inl ⟨by rfl, ?_⟩) hHeld ?_; rotate_left; (intro w hSw; (obtain ⟨c0, c1, c2, c3, _⟩ := hSw.1.p.four; obtain ⟨d0, d1, d2, d3, _⟩ := hSw.2.p.four; clear hSw); (go_simp <;> with_reducible rfl)); simp only [List.getElem_toArray, List.getElem_cons_zero, List.getElem_cons_succ, Act.put, List.setIfInBounds_toArray, List.set_cons_zero, List.set_cons_succ])
    (refine wpAnyH_ready (rs := [2]) (by kernel_rfl) (by simp) ?_; refine AllReadyH.cons rfl (fun K hK => ?_) AllReadyH.nil; go_simp; (refine (toDecoder_calls _ x0 _ _ _ _ hHeld.1.s hlen).mono ?_; rintro e w7 ⟨g7, rfl, ho7, hb7⟩; have hK' := And.intro (hHeld.1.later hb7) (hHeld.2.later hb7)); refine hK.out _ _ ?_ (fun hHeld => ?_); (assumption); clear hK K; try simp only [List.getElem_toArray, List.getElem_cons_zero, List.getElem_cons_succ, Act.put, List.setIfInBounds_toArray, List.set_cons_zero, List.set_cons_succ])
    (refine wpAnyH_ready (rs := [3]) (by kernel_rfl) (by simp) ?_; refine AllReadyH.cons rfl (fun K hK => ?_) AllReadyH.nil; go_simp; (refine (eqDecoder_calls _ _ x0 _ _ _ _ hHeld.2.s ho7.sl hlen).mono ?_; rintro e w8 ⟨rfl, hb8⟩; have hK'' := And.intro (hHeld.1.later hb8) (hHeld.2.later hb8)); refine hK.out _ _ ?_ (fun hHeld => ?_); (assumption); clear hK K; try simp only [List.getElem_toArray, List.getElem_cons_zero, List.getElem_cons_succ, Act.put, List.setIfInBounds_toArray, List.set_cons_zero, List.set_cons_succ])
    (refine wpAnyH_take (i := 4) (v := ?_) rfl (by kernel_rfl) (by kernel_rfl) (by kernel_rfl) (fun _ _ _ h => h) (Or.inl ⟨by rfl, ?_⟩) hHeld ?_; rotate_left; (intro w hSw; (obtain ⟨c0, c1, c2, c3, _⟩ := hSw.1.p.four; obtain ⟨d0, d1, d2, d3, _⟩ := hSw.2.p.four; clear hSw); (go_simp <;> with_reducible rfl)); simp only [List.getElem_toArray, List.getElem_cons_zero, List.getElem_cons_succ, Act.put, List.setIfInBounds_toArray, List.set_cons_zero, List.set_cons_succ])
    refine wpAnyH_done (by kernel_rfl) ?_ _
    refine NoPanic.normal ?_
    have HL := hid hHeld.1.l
    clear hHeld
    go_wp2
    go_ret
    exact ⟨rfl, HL.out⟩
  · go_enter Try.func4, Try.ntmps4
    go_wp2_with fail
    refine (szDecoder_calls _ _ _ _ _ _ _ _ m0 (by omega) (by omega)).mono ?_
    rintro e w1 ⟨rfl, hb⟩
    rw [szV_no (by omega)]
    have HL := hid (HP.out.later hb).l
    clear hb HP c0 c1 c2 c3
    go_wp2
    go_ret
    exact ⟨rfl, HL.out⟩

set_option maxRecDepth 100000 in
theorem lifted (os : Os) (started : os.Started) (H : Type) (enc : TypeId × Value → H) :
    ReturnsInHanded {} Try.checked os 4 .any (Rows.fnExactNextValueSpec.pre6 enc Try.prog Try.f4 Rows.fnExactNextValueRow.domain false) (Rows.fnExactNextValueSpec.post enc Try.prog Try.f4 false true false false) := by
  refine returnsInHanded_of_change (C := Try.checked) own started (by kernel_rfl) Try.func4
    (ChangeSpec.witness6 (enc := enc) (C := Try.checked) false ⟨#[], #[.agg #[.slice none 0 0, .int .i64 0, .int .i64 0, .int .i64 0], .int .i64 0], []⟩ 8 (by kernel_rfl) (by kernel_rfl) (by kernel_rfl) (by kernel_rfl)) ?_
  intro W base args ds gs before hval0 hW hcnd _
  have hval : ∀ (j : Nat) t v, Try.f4.params[j]? = some t → args[j]? = some v → Value.okWide Try.prog W .any base t v := hval0
  have hW' := hW
  obtain ⟨p, q, hA0, hV, rfl, hfz, hnd⟩ := hW
  have hA : DataW.TrodAll enc Try.prog W 0 (fun _ => true) true Try.f4.params.toList args.toList ds p := hA0
  rw [Try.params4] at hA hval
  obtain ⟨v0, vs0, d0, ds0, p0, q0, hargs, rfl, rfl, h0, rr0⟩ := trodAll_cons hA
  obtain ⟨v1, vs1, d1, ds1, p1, q1, rfl, rfl, rfl, h1, rr1⟩ := trodAll_cons rr0
  obtain ⟨rfl, rfl, rfl⟩ := trodAll_nil rr1
  obtain rfl : args = #[v0, v1] := by cases args; simp_all
  obtain ⟨rfl, rfl⟩ := trodVars_none hV
  have k0 := h0
  have lt0 : ∀ x ∈ p0, x.block < W.heap.size := by obtain ⟨m, hm⟩ := k0; exact DataW.trod_lt m _ _ _ hm
  obtain ⟨cs0, rfl, hc0⟩ := okWide_struct Try.underlying34 (hval 0 34 v0 rfl rfl)
  obtain ⟨a0, cap0, x0, u0, v0, r0, rfl, s0, b0, m0⟩ := Go.Proofs.Ytdmaeipiikknnab.OpnD.open_dec hc0 h0
  obtain ⟨a1, rfl, rfl, rfl, w1⟩ := open_int Try.underlying2 (hval 1 2 v1 rfl rfl) h1
  clear hA0 hval0
  refine (walk a0 cap0 x0 u0 v0 r0 a1 W s0 b0 m0 w1).mono fun e W' ⟨he, bel⟩ => ?_
  subst he
  exact ⟨_, rfl, _, _, _, [], _, [], hW', trodAll_mk1 (shut_bool Try.underlying4 _), (trodAll_cons_mk (Below.trod laidOut (by kernel_rfl) (of_decide_eq_true (by kernel_rfl)) k0 bel lt0) (trodAll_cons_mk (shut_int Try.underlying2 w1) trodAll_mk0)), rfl, bel.frame _, fun h => by cases h⟩

theorem over : Rows.fnExactNextValueRow.holds Try.pinned (OpenSpec.ofChange Rows.fnExactNextValueSpec) :=
  OpenClaim.holds_of_wide 4 Try.f4 rfl rfl rfl rfl rfl rfl rfl ⟨rfl, rfl, rfl, rfl, rfl⟩ rfl rfl rfl rfl rfl (by kernel_rfl) Try.func4 (by kernel_rfl)
    (of_decide_eq_true (by kernel_rfl)) (by unfold Func.isWrapper; first | (rw [if_pos (by decide +kernel)]; kernel_rfl) | (rw [if_neg (by decide +kernel)]; exact ⟨rfl, rfl⟩))
    (fun os started H enc _ => lifted os started H enc)

theorem proved : Rows.FnExactNextValueSaid := over
#print axioms proved
end Go.Proofs.Ytdmaeipiikknnab.fnExactNextValue
