/- For every list of bytes the program's StartDecode answers as the model's does, code and decoder, leaves its list as it was, and its answer is new memory that no later call turns; nothing that was there turns. No conditions. -/
import Derived.Test.YtdmaeipiikknnabRows
import Derived.Test.YtdmaeipiikknnabNum
import Derived.Test.YtdmaeipiikknnabSli
import Derived.Test.YtdmaeipiikknnabApp
import Derived.Test.YtdmaeipiikknnabByt
import Derived.Test.YtdmaeipiikknnabCrcM
import Derived.Test.YtdmaeipiikknnabStr
import Derived.Test.YtdmaeipiikknnabDiv
import Derived.Test.YtdmaeipiikknnabDec
import Derived.Test.YtdmaeipiikknnabBlk
import Derived.Test.YtdmaeipiikknnabNxt
import Derived.Test.YtdmaeipiikknnabByte
import Derived.Test.YtdmaeipiikknnabTakS
import Derived.Test.YtdmaeipiikknnabTakT
import Derived.Test.YtdmaeipiikknnabRngF
import Derived.Test.YtdmaeipiikknnabItr
import Derived.Test.YtdmaeipiikknnabStaI
import Derived.Test.YtdmaeipiikknnabExD
import Derived.Test.YtdmaeipiikknnabExQ
import Derived.WalkKit
import Derived.ProofKit
import Derived.OpenShut
import Derived.ShutString
import Derived.ChangeOld
import Derived.Below
namespace Go.Proofs.Ytdmaeipiikknnab.fnExactStartDecode
open Go.ChangeShapes Go.WideShapes Go.ChangeAt Go.RowKit
open Go.ChangeMaps (open_string shut_string)
set_option linter.unusedVariables false

theorem own : ownKnob Try.prog.godebug = none := by kernel_rfl
theorem laidOut : laidOutB Try.prog = true := by kernel_rfl

def IsRow (k : IntKind) (w : World) (a : Option Addr) (len cap : Nat) (zs : List Int) : Prop :=
  (a = none ∧ len = 0 ∧ cap = 0 ∧ zs = []) ∨
  ∃ x, a = some x ∧ len ≤ cap ∧ cap ≤ maxLen ∧ zs.length = cap ∧ (∀ i, i < zs.length → w.cell? (x.add i) = some (.int k (zs.getD i 0))) ∧ ∀ n ∈ zs, (Lit.int k n).wf = true

open Go.Proofs.Ytdmaeipiikknnab.Num Go.Proofs.Ytdmaeipiikknnab.Sli Go.Proofs.Ytdmaeipiikknnab.App Go.Proofs.Ytdmaeipiikknnab.Byt Go.Proofs.Ytdmaeipiikknnab.CrcM Go.Proofs.Ytdmaeipiikknnab.Div Go.Proofs.Ytdmaeipiikknnab.Dec Go.Proofs.Ytdmaeipiikknnab.Blk Go.Proofs.Ytdmaeipiikknnab.Nxt Go.Proofs.Ytdmaeipiikknnab.TakS Go.Proofs.Ytdmaeipiikknnab.TakT Go.Proofs.Ytdmaeipiikknnab.StaI Go.Proofs.Ytdmaeipiikknnab.ExD Go.Proofs.Ytdmaeipiikknnab.ExQ
theorem stD_small (xs : List Int) : (stD xs).xs.length ≤ 1048576 := by
  unfold stD
  split
  · exact Nat.zero_le _
  · show xs.length ≤ _; omega
set_option maxHeartbeats 2000000 in
theorem walk (a0 : Option Addr) (len0 cap0 : Nat) (z0 : List Int) (w : World) (w0 : IsRow .u8 w a0 len0 cap0 z0) :
    Calls Try.prog 3 #[.slice a0 len0 cap0] w fun e w' => e = .returned (.bool true) ∧ Below w.heap.size w w' := by
  obtain ⟨hsl, hlen⟩ := sl_of_row w0
  have hwf := wf_of_row w0
  have hbd : BytesL (z0.take len0) := fun x hx => bounds_u8 (hwf x hx)
  clear w0 hwf
  generalize z0.take len0 = xs at *
  subst hlen
  by_cases hbig : 1048576 < xs.length
  · have hb' : (1048576 : Int) < xs.length := by omega
    go_enter Try.func3, Try.ntmps3
    go_wp2
    go_ret
    exact ⟨rfl, Below.refl _ _⟩
  · have hb' : (xs.length : Int) ≤ 1048576 := by omega
    have hlen : xs.length ≤ 1048576 := by omega
    have hyl := stD_small xs
    have HSL := hid hsl
    have HSp := hid (fun v w' (h : Sl .u8 w' v xs) => specStart_calls v xs w' h hbd hlen)
    have HIm := hid (fun v w' (h : Sl .u8 w' v xs) => implStart_calls v xs w' h hbd hlen)
    clear hsl
    generalize stC xs = c at *
    generalize stD xs = d at *
    obtain ⟨ds, da, dr, dn⟩ := d
    dsimp only at hyl
    go_enter Try.func3, Try.ntmps3
    go_wp2_with fail
    refine (toByteS_calls _ xs _ HSL.out hlen).mono ?_
    rintro e w1 ⟨g1, rfl, ho1, hb1⟩
    go_wp2_with fail
    refine (HSp.out _ _ ho1.sl).mono ?_
    rintro e w2 ⟨W, rfl, hoW, hb2⟩
    dsimp only at hoW
    have HB2 := hid (bthen hb1 hb2)
    have HW2 := hid (hoW.mono (base' := w.heap.size) hb1.size)
    obtain ⟨aW, cW, rfl, _⟩ := hoW.sl
    clear ho1 hb1 hb2 hoW
    go_wp2_with fail
    refine (toByteS_calls _ xs _ (HSL.out.later (bmore HB2.out _)) hlen).mono ?_
    rintro e w3 ⟨g3, rfl, ho3, hb3⟩
    have HO3 := hid ho3
    have HB3 := hid hb3
    clear ho3 hb3
    go_wp2_with fail
    refine (HIm.out _ _ HO3.out.sl).mono ?_
    rintro e w4 ⟨G, rfl, hoG, hb4⟩
    dsimp only at hoG
    obtain ⟨aG, cG, rfl, _⟩ := hoG.sl
    have hb24 := bmore (bthen HB3.out hb4) (.cells #[.int .i64 c, .slice aG ds.length cG, .int .i64 da, .int .i64 dr, .int .i64 dn] 26)
    have hw2 := bmore HB2.out (.cells #[.int .i64 c, .slice aW ds.length cW, .int .i64 da, .int .i64 dr, .int .i64 dn] 26)
    have hz1 := HB2.out.size
    have hz2 : w2.heap.size + 1 ≤ w3.heap.size := by have := HB3.out.size; simpa using this
    have hz3 := hb4.size
    have hK : KQ w w2.heap.size w4.heap.size (w2.heap.size + 1) w3.heap.size #[.int .i64 c, .slice aW ds.length cW, .int .i64 da, .int .i64 dr, .int .i64 dn] #[.int .i64 c, .slice aG ds.length cG, .int .i64 da, .int .i64 dr, .int .i64 dn] 26 (.slice aW ds.length cW) (.slice aG ds.length cG) ds ds (w4.alloc (.cells #[.int .i64 c, .slice aG ds.length cG, .int .i64 da, .int .i64 dr, .int .i64 dn] 26)) :=
      ⟨(Blk.new w2 _ _).later hb24, Blk.new _ _ _, (HW2.out.alloc _).later hb24, fun j e => by have := (HW2.out.block j e).2; omega, hoG.alloc _, by omega, by omega, bthen hw2 hb24⟩
    have HOX : Hid (OwB (w2.heap.size + 1) (w4.alloc (.cells #[.int .i64 c, .slice aG ds.length cG, .int .i64 da, .int .i64 dr, .int .i64 dn] 26)) (.slice (some ⟨g3, 0, none⟩) xs.length xs.length) xs) := ((HO3.out.mono (by simp)).later hb4).alloc _
    have HX : Hid (∀ j, Value.ownBlock (.slice (some ⟨g3, 0, none⟩) xs.length xs.length) = some j → j < w3.heap.size) := fun j e => (HO3.out.block j e).2
    have HK := hid hK
    clear hb4 hoG HB2 HW2 HB3 HO3 hK hb24 hw2 hz1
    generalize w2.heap.size = A at *
    generalize w3.heap.size = Bx at *
    obtain ⟨p0, p1, p2, p3, p4, _⟩ := HK.out.p.five
    have hAQ : A < w4.heap.size := by omega
    go_wp2_with fail
    refine (eqDecoderResult_calls _ _ _ _ _ _ _ _ HK.out.oG.sl HK.out.oW.sl hyl).mono ?_
    rintro e w6 ⟨rfl, hb6⟩
    have HK6 := hid (HK.out.later hb6)
    have HOX6 := hid (HOX.out.later hb6)
    clear HK HOX hb6 p0 p1 p2 p3 p4 hAQ hz2 hz3
    generalize w4.heap.size = Q at *
    go_wp2_with fail
    refine (toByteS_calls _ xs _ (HSL.out.later HK6.out.bel) hlen).mono ?_
    rintro e w7 ⟨g7, rfl, ho7, hb7⟩
    have HK7 := hid (HK6.out.later hb7)
    have HOX7 := hid (HOX6.out.later hb7)
    have HO7 := hid ho7
    clear HK6 HOX6 hb7 ho7
    go_wp2_with fail
    refine (eqByteS_calls _ _ xs _ HOX7.out.sl HO7.out.sl hlen).mono ?_
    rintro e w8 ⟨rfl, hb8⟩
    have HK8 := hid (HK7.out.later hb8)
    have HOX8 := hid (HOX7.out.later hb8)
    clear HK7 HOX7 hb8 HO7
    go_wp2_with fail
    refine (markByteS_calls _ _ xs _ 1 HOX8.out hlen (by omega)).mono ?_
    rintro e w9 ⟨rfl, _, hg9⟩
    have HK9 := hid (HK8.out.mark (by decide) HOX8.out HX.out hg9)
    have hcast : (((1 + xs.length : Nat) : Int)) = 1 + (xs.length : Int) := by omega
    rw [hcast]
    clear hcast HK8 HOX8 HX hg9
    obtain ⟨p0, p1, p2, p3, p4, _⟩ := HK9.out.p.five
    obtain ⟨q0, q1, q2, q3, q4, _⟩ := HK9.out.q.five
    go_wp2_with fail
    refine (eqDecoderResult_calls _ _ _ _ _ _ _ _ HK9.out.oG.sl HK9.out.oW.sl hyl).mono ?_
    rintro e wa ⟨rfl, hba⟩
    have HKa := hid (HK9.out.later hba)
    clear HK9 hba p0 p1 p2 p3 p4 q0 q1 q2 q3 q4
    obtain ⟨q0, q1, q2, q3, q4, _⟩ := HKa.out.q.five
    go_wp2_with fail
    refine (markDecoderResult_calls _ _ _ _ _ _ _ _ 1 HKa.out.oG hyl (by omega)).mono ?_
    rintro e wb ⟨rfl, hob, hgb⟩
    have HKb := hid (HKa.out.markG (by decide) hgb hob)
    have hcast : (((1 + ds.length : Nat) : Int)) = 1 + (ds.length : Int) := by omega
    rw [hcast]
    have HC := hid hcast
    clear hcast HKa hgb hob q0 q1 q2 q3 q4
    obtain ⟨q0, q1, q2, q3, q4, _⟩ := HKb.out.q.five
    go_wp2_with fail
    refine (heldDecoderResult_calls _ _ _ _ _ _ _ 1 HKb.out.oG.sl hyl (by omega)).mono ?_
    rintro e wc ⟨rfl, hbc⟩
    have HKe := hid (HKb.out.later hbc)
    rw [HC.out]
    clear HKb hbc q0 q1 q2 q3 q4
    go_wp2_with fail
    refine (toByteS_calls _ xs _ (HSL.out.later HKe.out.bel) hlen).mono ?_
    rintro e w14 ⟨g14, rfl, ho14, hb14⟩
    have HKf := hid (HKe.out.later hb14)
    clear HKe hb14
    go_wp2_with fail
    refine (HIm.out _ _ ho14.sl).mono ?_
    rintro e w15 ⟨V, rfl, hoV, hb15⟩
    dsimp only at hoV
    have HV := hid hoV.sl
    obtain ⟨aV, cV, rfl, _⟩ := hoV.sl
    have HKg := hid (HKf.out.later (bmore hb15 (.cells #[.int .i64 c, .slice aV ds.length cV, .int .i64 da, .int .i64 dr, .int .i64 dn] 26)))
    clear HKf ho14 hoV hb15
    obtain ⟨p0, p1, p2, p3, p4, _⟩ := HKg.out.p.five
    go_wp2_with fail
    refine (eqDecoderResult_calls _ _ _ _ _ _ _ _ (HV.out.later (bmore (Below.refl _ _) _)) HKg.out.oW.sl hyl).mono ?_
    rintro e wd ⟨rfl, hbd'⟩
    have HKh := hid (HKg.out.later hbd')
    clear HKg hbd' HV p0 p1 p2 p3 p4
    obtain ⟨q0, q1, q2, q3, q4, _⟩ := HKh.out.q.five
    go_wp2_with fail
    refine (heldDecoderResult_calls _ _ _ _ _ _ _ 1 HKh.out.oG.sl hyl (by omega)).mono ?_
    rintro e we ⟨rfl, hbe⟩
    have HL := hid (bthen HKh.out.bel hbe)
    rw [HC.out]
    clear HKh hbe q0 q1 q2 q3 q4
    go_wp2
    go_ret
    exact ⟨rfl, HL.out⟩

set_option maxRecDepth 100000 in
theorem lifted (os : Os) (started : os.Started) (H : Type) (enc : TypeId × Value → H) :
    ReturnsInHanded {} Try.checked os 3 .any (Rows.fnExactStartDecodeSpec.pre6 enc Try.prog Try.f3 Rows.fnExactStartDecodeRow.domain false) (Rows.fnExactStartDecodeSpec.post enc Try.prog Try.f3 false true false false) := by
  refine returnsInHanded_of_change (C := Try.checked) own started (by kernel_rfl) Try.func3
    (ChangeSpec.witness6 (enc := enc) (C := Try.checked) false ⟨#[], #[.slice none 0 0], []⟩ 8 (by kernel_rfl) (by kernel_rfl) (by kernel_rfl) (by kernel_rfl)) ?_
  intro W base args ds gs before hval0 hW hcnd _
  have hval : ∀ (j : Nat) t v, Try.f3.params[j]? = some t → args[j]? = some v → Value.okWide Try.prog W .any base t v := hval0
  have hW' := hW
  obtain ⟨p, q, hA0, hV, rfl, hfz, hnd⟩ := hW
  have hA : DataW.TrodAll enc Try.prog W 0 (fun _ => true) true Try.f3.params.toList args.toList ds p := hA0
  rw [Try.params3] at hA hval
  obtain ⟨v0, vs0, d0, ds0, p0, q0, hargs, rfl, rfl, h0, r0⟩ := trodAll_cons hA
  obtain ⟨rfl, rfl, rfl⟩ := trodAll_nil r0
  obtain rfl : args = #[v0] := by cases args; simp_all
  obtain ⟨rfl, rfl⟩ := trodVars_none hV
  obtain ⟨a0, len0, cap0, rfl⟩ := okWide_slice Try.underlying22 (hval 0 22 v0 rfl rfl)
  have k0 := h0
  have lt0 : ∀ x ∈ p0, x.block < W.heap.size := by obtain ⟨m, hm⟩ := k0; exact DataW.trod_lt m _ _ _ hm
  obtain ⟨z0, w0⟩ : ∃ zs, IsRow .u8 W a0 len0 cap0 zs := by
    obtain ⟨fuel, hf⟩ := h0
    rcases open_ints Try.underlying22 Try.underlying5 (by kernel_rfl) hf with ⟨hcs, _⟩ | ⟨x, l, c, zs, hcs, _, hl, hm, hz, _, hcell, hwz⟩
    · simp [Value.cells] at hcs
      obtain ⟨rfl, rfl, rfl⟩ := hcs
      exact ⟨[], .inl ⟨rfl, rfl, rfl, rfl⟩⟩
    · simp [Value.cells] at hcs
      obtain ⟨rfl, rfl, rfl⟩ := hcs
      exact ⟨zs, .inr ⟨_, rfl, hl, hm, by simpa using hz, hcell, hwz⟩⟩
  clear hA0 hval0
  refine (walk a0 len0 cap0 z0 W w0).mono fun e W' ⟨he, bel⟩ => ?_
  subst he
  exact ⟨_, rfl, _, _, _, [], _, [], hW', trodAll_mk1 (shut_bool Try.underlying4 _), (trodAll_cons_mk (Below.trod laidOut (by kernel_rfl) (of_decide_eq_true (by kernel_rfl)) k0 bel lt0) trodAll_mk0), rfl, bel.frame _, fun h => by cases h⟩

theorem over : Rows.fnExactStartDecodeRow.holds Try.pinned (OpenSpec.ofChange Rows.fnExactStartDecodeSpec) :=
  OpenClaim.holds_of_wide 3 Try.f3 rfl rfl rfl rfl rfl rfl rfl ⟨rfl, rfl, rfl, rfl, rfl⟩ rfl rfl rfl rfl rfl (by kernel_rfl) Try.func3 (by kernel_rfl)
    (of_decide_eq_true (by kernel_rfl)) (by unfold Func.isWrapper; first | (rw [if_pos (by decide +kernel)]; kernel_rfl) | (rw [if_neg (by decide +kernel)]; exact ⟨rfl, rfl⟩))
    (fun os started H enc _ => lifted os started H enc)

theorem proved : Rows.FnExactStartDecodeSaid := over
#print axioms proved
end Go.Proofs.Ytdmaeipiikknnab.fnExactStartDecode
