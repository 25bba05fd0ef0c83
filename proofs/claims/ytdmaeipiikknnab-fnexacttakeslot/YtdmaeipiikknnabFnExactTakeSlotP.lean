/- For every decoder and every slot the program's TakeSlot answers as the model's does, code and decoder, leaves its decoder as it was, and its answer is new memory that no later call turns; nothing that was there turns. No conditions. -/
import Derived.Test.YtdmaeipiikknnabRows
import Derived.Test.YtdmaeipiikknnabNum
import Derived.Test.YtdmaeipiikknnabSli
import Derived.Test.YtdmaeipiikknnabApp
import Derived.Test.YtdmaeipiikknnabByt
import Derived.Test.YtdmaeipiikknnabCrcM
import Derived.Test.YtdmaeipiikknnabStr
import Derived.Test.YtdmaeipiikknnabDiv
import Derived.Test.YtdmaeipiikknnabDec
import Derived.Test.YtdmaeipiikknnabBlk
import Derived.Test.YtdmaeipiikknnabNxt
import Derived.Test.YtdmaeipiikknnabByte
import Derived.Test.YtdmaeipiikknnabTakS
import Derived.Test.YtdmaeipiikknnabTakT
import Derived.Test.YtdmaeipiikknnabRngF
import Derived.Test.YtdmaeipiikknnabItr
import Derived.Test.YtdmaeipiikknnabStaI
import Derived.Test.YtdmaeipiikknnabTakI
import Derived.Test.YtdmaeipiikknnabExD
import Derived.Test.YtdmaeipiikknnabExQ
import Derived.Test.YtdmaeipiikknnabExT
import Derived.Test.YtdmaeipiikknnabOpnD
import Derived.Test.YtdmaeipiikknnabOpnS
import Derived.WalkKit
import Derived.ProofKit
import Derived.OpenShut
import Derived.ShutString
import Derived.ChangeOld
import Derived.Below
namespace Go.Proofs.Ytdmaeipiikknnab.fnExactTakeSlot
open Go.ChangeShapes Go.WideShapes Go.ChangeAt Go.RowKit
open Go.ChangeMaps (open_string shut_string)
set_option linter.unusedVariables false

theorem own : ownKnob Try.prog.godebug = none := by kernel_rfl
theorem laidOut : laidOutB Try.prog = true := by kernel_rfl

open Go.Proofs.Ytdmaeipiikknnab.Num Go.Proofs.Ytdmaeipiikknnab.Sli Go.Proofs.Ytdmaeipiikknnab.App Go.Proofs.Ytdmaeipiikknnab.Byt Go.Proofs.Ytdmaeipiikknnab.CrcM Go.Proofs.Ytdmaeipiikknnab.Div Go.Proofs.Ytdmaeipiikknnab.Dec Go.Proofs.Ytdmaeipiikknnab.Blk Go.Proofs.Ytdmaeipiikknnab.Nxt Go.Proofs.Ytdmaeipiikknnab.TakS Go.Proofs.Ytdmaeipiikknnab.TakT Go.Proofs.Ytdmaeipiikknnab.StaI Go.Proofs.Ytdmaeipiikknnab.TakI Go.Proofs.Ytdmaeipiikknnab.ExD Go.Proofs.Ytdmaeipiikknnab.ExQ Go.Proofs.Ytdmaeipiikknnab.ExT
set_option maxRecDepth 100000 in
set_option maxHeartbeats 4000000 in
theorem walk (a0 : Option Addr) (cap0 : Nat) (x0 : List Int) (u0 v0 r0 : Int) (u1 v1 r1 : Int) (w : World) (s0 : Go.Proofs.Ytdmaeipiikknnab.Sli.Sl .u8 w (.slice a0 x0.length cap0) x0) (b0 : Go.Proofs.Ytdmaeipiikknnab.CrcM.BytesL x0) (m0 : x0.length ≤ maxLen) :
    Calls Try.prog 5 #[.agg #[.slice a0 x0.length cap0, .int .i64 u0, .int .i64 v0, .int .i64 r0], .agg #[.int .i64 u1, .int .i64 v1, .int .i64 r1]] w fun e w' => e = .returned (.bool true) ∧ Below w.heap.size w w' := by
  have HS0 := hid s0
  have hR : AR w a0 cap0 x0 u0 v0 r0 u1 v1 r1 ((w.alloc (.cells #[.slice a0 x0.length cap0, .int .i64 u0, .int .i64 v0, .int .i64 r0] 34)).alloc (.cells #[.int .i64 u1, .int .i64 v1, .int .i64 r1] 44)) :=
    ⟨(Blk.new _ _ _).alloc _, by have := Blk.new (w.alloc (.cells #[.slice a0 x0.length cap0, .int .i64 u0, .int .i64 v0, .int .i64 r0] 34)) #[.int .i64 u1, .int .i64 v1, .int .i64 r1] 44; rwa [World.size_alloc] at this, bmore (bmore (Below.refl _ _) _) _⟩
  have HR := hid hR
  clear hR s0
  by_cases hbig : (x0.length : Int) ≤ 1048576
  · have hlen : x0.length ≤ 1048576 := by omega
    have hyl := tD_small ⟨x0, u0, v0, r0⟩ u1 v1 r1 hlen
    have HSp := hid (fun v w' (h : Sl .u8 w' v x0) => specTake_calls v ⟨x0, u0, v0, r0⟩ u1 v1 r1 w' h b0 hlen)
    have HIm := hid (fun v w' (h : Sl .u8 w' v x0) => implTake_calls v ⟨x0, u0, v0, r0⟩ u1 v1 r1 w' h b0 hlen)
    generalize tC ⟨x0, u0, v0, r0⟩ u1 v1 r1 = c at *
    generalize tD ⟨x0, u0, v0, r0⟩ u1 v1 r1 = d at *
    obtain ⟨ds, da, dr, dn⟩ := d
    dsimp only at hyl HSp HIm
    go_enter Try.func5, Try.ntmps5
    go_wp2_with fail
    refine (szDecoder_calls _ _ _ _ _ _ _ _ m0 (by omega) (by omega)).mono ?_
    rintro e w1 ⟨rfl, hb⟩
    rw [szV_yes hbig]
    have HR1 := hid (HR.out.later hb)
    have hz : 0 ≤ 1048576 - (x0.length : Int) := by omega
    clear hb HR
    have HK : Hid (AR w a0 cap0 x0 u0 v0 r0 u1 v1 r1 w1.drew) := HR1.out.drew
    clear HR1
    go_upto_region 5 with fail
    go_cut [6] from 18 to 22 (fun t wc => ∃ (A : Nat) (vW : Value), t = .pointer (some ⟨A, 0, none⟩) ∧ Hid (A1 w a0 cap0 x0 u0 v0 r0 u1 v1 r1 A c vW ⟨ds, da, dr, dn⟩ wc))
    case first =>
      refine wp_region_noPanic ?_
      refine wp_region_held_drew (S := fun W => AR w a0 cap0 x0 u0 v0 r0 u1 v1 r1 W) (by kernel_rfl) (by first | exact HKz.out | exact HK.out) (fun hHeld => ?_)
      (refine wpAnyH_take (i := 0) (v := ?_) rfl (by kernel_rfl) (by kernel_rfl) (by kernel_rfl) (fun _ _ _ h => h) (Or.inl ⟨by rfl, ?_⟩) hHeld ?_; rotate_left; (intro w hSw; (obtain ⟨c0, c1, c2, c3, _⟩ := hSw.p.four; obtain ⟨d0, d1, d2, _⟩ := hSw.s.three; clear hSw); (go_simp <;> with_reducible rfl)); simp only [List.getElem_toArray, List.getElem_cons_zero, Act.put, List.setIfInBounds_toArray, List.set_cons_zero, List.set_cons_succ])
      (refine wpAnyH_take (i := 2) (v := ?_) rfl (by kernel_rfl) (by kernel_rfl) (by kernel_rfl) (fun _ _ _ h => h) (Or.inl ⟨by rfl, ?_⟩) hHeld ?_; rotate_left; (intro w hSw; (obtain ⟨c0, c1, c2, c3, _⟩ := hSw.p.four; obtain ⟨d0, d1, d2, _⟩ := hSw.s.three; clear hSw); (go_simp <;> with_reducible rfl)); simp only [List.getElem_toArray, List.getElem_cons_zero, List.getElem_cons_succ, Act.put, List.setIfInBounds_toArray, List.set_cons_zero, List.set_cons_succ])
      refine wpAnyH_ready (rs := [1, 5]) (by kernel_rfl) (by simp) ?_
      refine (AllReadyH.cons rfl (fun K hK => ?_) (AllReadyH.cons rfl (fun K hK => ?_) AllReadyH.nil))
      · go_simp
        (refine (toDecoder_calls _ x0 _ _ _ _ (HK.out.sl HS0.out) hlen).mono ?_; rintro e W2 ⟨g2, rfl, hoD, hbX⟩; (replace HK := hid (HK.out.later hbX)); (try replace HA := hid (HA.out.later hbX)); have HD := hid hoD.sl; (try obtain ⟨z0, z1, z2, z3, z4, y0, y1, y2, y3, y4⟩ := HA.out.five))
        refine hK.out _ _ (by first | exact HKz.out | exact HK.out) (fun hHeld => ?_)
        clear hK K
        try dsimp only
        refine wpAnyH_ready (rs := [3, 5]) (by kernel_rfl) (by simp) ?_
        refine (AllReadyH.cons rfl (fun K hK => ?_) (AllReadyH.cons rfl (fun K hK => ?_) AllReadyH.nil))
        · go_simp
          (refine (toSlot_calls _ _ _ _).mono ?_; rintro e W3 ⟨rfl, hbX⟩; (replace HK := hid (HK.out.later hbX)); (try replace HA := hid (HA.out.later hbX)); (try replace HD := hid (HD.out.later hbX)); (try obtain ⟨z0, z1, z2, z3, z4, y0, y1, y2, y3, y4⟩ := HA.out.five))
          refine hK.out _ _ (by first | exact HKz.out | exact HK.out) (fun hHeld => ?_)
          clear hK K
          try dsimp only
          refine wpAnyH_ready (rs := [4, 5]) (by kernel_rfl) (by simp) ?_
          refine (AllReadyH.cons rfl (fun K hK => ?_) (AllReadyH.cons rfl (fun K hK => ?_) AllReadyH.nil))
          · go_simp
            (refine (HSp.out _ _ HD.out).mono ?_; rintro e W4 ⟨vW, rfl, hoW, hbX⟩; dsimp only; have HT := hid (hoW.mono (base' := w.heap.size) HK.out.l.size); (replace HK := hid (HK.out.later hbX)); (try replace HA := hid (HA.out.later hbX)); obtain ⟨aW, cW, rfl, _⟩ := hoW.sl; (try obtain ⟨z0, z1, z2, z3, z4, y0, y1, y2, y3, y4⟩ := HA.out.five))
            refine hK.out _ _ (by first | exact HKz.out | exact HK.out) (fun hHeld => ?_)
            clear hK K
            try dsimp only
            refine wpAnyH_ready (rs := [5]) (by kernel_rfl) (by simp) ?_
            refine (AllReadyH.cons rfl (fun K hK => ?_) AllReadyH.nil)
            go_simp
            (have HKz := hid (ar_new HK.out).1)
            refine hK.out _ _ (by first | exact HKz.out | exact HK.out) (fun hHeld => ?_)
            clear hK K
            try simp only [List.getElem_toArray, List.getElem_cons_zero, List.getElem_cons_succ, Act.put, List.setIfInBounds_toArray, List.set_cons_zero, List.set_cons_succ]
            refine wpAnyH_ready (rs := [6]) (by kernel_rfl) (by simp) ?_
            refine (AllReadyH.cons rfl (fun K hK => ?_) AllReadyH.nil)
            go_simp
            (first | (have HKz := hid (a1_set (c := c) (d := ⟨ds, da, dr, dn⟩) HK.out HA.out hAz HT.out).r) | (have HKz := hid (a1_new (c := c) (d := ⟨ds, da, dr, dn⟩) HK.out HT.out).r))
            refine hK.out _ _ (by first | exact HKz.out | exact HK.out) (fun hHeld => ?_)
            clear hK K
            try simp only [List.getElem_toArray, List.getElem_cons_zero, List.getElem_cons_succ, Act.put, List.setIfInBounds_toArray, List.set_cons_zero, List.set_cons_succ]
            refine wpAnyH_done (by kernel_rfl) ?_ _
            refine NoPanic.normal ?_
            go_wp2_with fail
            go_meet
            case rel => first | exact ⟨_, _, rfl, a1_set (d := ⟨ds, da, dr, dn⟩) HK.out HA.out hAz HT.out⟩ | exact ⟨_, _, rfl, a1_new (d := ⟨ds, da, dr, dn⟩) HK.out HT.out⟩
          · go_simp
            (have hAz := HK.out.lt; obtain ⟨hk, ha⟩ := ar_new HK.out; replace HK := hid hk; (first | (have HA : Hid (Blk (w1.drew.alloc (.cells #[.int .i64 0, .slice none 0 0, .int .i64 0, .int .i64 0, .int .i64 0] 26)) w1.heap.size #[.int .i64 0, .slice none 0 0, .int .i64 0, .int .i64 0, .int .i64 0] 26) := ha) | (have HA := hid ha)); (try replace HD := hid (HD.out.later (bmore (Below.refl _ _) (.cells #[.int .i64 0, .slice none 0 0, .int .i64 0, .int .i64 0, .int .i64 0] 26)))); obtain ⟨z0, z1, z2, z3, z4, y0, y1, y2, y3, y4⟩ := HA.out.five)
            refine hK.out _ _ (by first | exact HKz.out | exact HK.out) (fun hHeld => ?_)
            clear hK K
            try simp only [List.getElem_toArray, List.getElem_cons_zero, List.getElem_cons_succ, Act.put, List.setIfInBounds_toArray, List.set_cons_zero, List.set_cons_succ]
            refine wpAnyH_ready (rs := [4]) (by kernel_rfl) (by simp) ?_
            refine (AllReadyH.cons rfl (fun K hK => ?_) AllReadyH.nil)
            go_simp
            (refine (HSp.out _ _ HD.out).mono ?_; rintro e W4 ⟨vW, rfl, hoW, hbX⟩; dsimp only; have HT := hid (hoW.mono (base' := w.heap.size) HK.out.l.size); (replace HK := hid (HK.out.later hbX)); (try replace HA := hid (HA.out.later hbX)); obtain ⟨aW, cW, rfl, _⟩ := hoW.sl; (try obtain ⟨z0, z1, z2, z3, z4, y0, y1, y2, y3, y4⟩ := HA.out.five))
            refine hK.out _ _ (by first | exact HKz.out | exact HK.out) (fun hHeld => ?_)
            clear hK K
            try dsimp only
            refine wpAnyH_ready (rs := [6]) (by kernel_rfl) (by simp) ?_
            refine (AllReadyH.cons rfl (fun K hK => ?_) AllReadyH.nil)
            go_simp
            (first | (have HKz := hid (a1_set (c := c) (d := ⟨ds, da, dr, dn⟩) HK.out HA.out hAz HT.out).r) | (have HKz := hid (a1_new (c := c) (d := ⟨ds, da, dr, dn⟩) HK.out HT.out).r))
            refine hK.out _ _ (by first | exact HKz.out | exact HK.out) (fun hHeld => ?_)
            clear hK K
            try simp only [List.getElem_toArray, List.getElem_cons_zero, List.getElem_cons_succ, Act.put, List.setIfInBounds_toArray, List.set_cons_zero, List.set_cons_succ]
            refine wpAnyH_done (by kernel_rfl) ?_ _
            refine NoPanic.normal ?_
            go_wp2_with fail
            go_meet
            case rel => first | exact ⟨_, _, rfl, a1_set (d := ⟨ds, da, dr, dn⟩) HK.out HA.out hAz HT.out⟩ | exact ⟨_, _, rfl, a1_new (d := ⟨ds, da, dr, dn⟩) HK.out HT.out⟩
        · go_simp
          (have hAz := HK.out.lt; obtain ⟨hk, ha⟩ := ar_new HK.out; replace HK := hid hk; (first | (have HA : Hid (Blk (w1.drew.alloc (.cells #[.int .i64 0, .slice none 0 0, .int .i64 0, .int .i64 0, .int .i64 0] 26)) w1.heap.size #[.int .i64 0, .slice none 0 0, .int .i64 0, .int .i64 0, .int .i64 0] 26) := ha) | (have HA := hid ha)); (try replace HD := hid (HD.out.later (bmore (Below.refl _ _) (.cells #[.int .i64 0, .slice none 0 0, .int .i64 0, .int .i64 0, .int .i64 0] 26)))); obtain ⟨z0, z1, z2, z3, z4, y0, y1, y2, y3, y4⟩ := HA.out.five)
          refine hK.out _ _ (by first | exact HKz.out | exact HK.out) (fun hHeld => ?_)
          clear hK K
          try simp only [List.getElem_toArray, List.getElem_cons_zero, List.getElem_cons_succ, Act.put, List.setIfInBounds_toArray, List.set_cons_zero, List.set_cons_succ]
          refine wpAnyH_ready (rs := [3]) (by kernel_rfl) (by simp) ?_
          refine (AllReadyH.cons rfl (fun K hK => ?_) AllReadyH.nil)
          go_simp
          (refine (toSlot_calls _ _ _ _).mono ?_; rintro e W3 ⟨rfl, hbX⟩; (replace HK := hid (HK.out.later hbX)); (try replace HA := hid (HA.out.later hbX)); (try replace HD := hid (HD.out.later hbX)); (try obtain ⟨z0, z1, z2, z3, z4, y0, y1, y2, y3, y4⟩ := HA.out.five))
          refine hK.out _ _ (by first | exact HKz.out | exact HK.out) (fun hHeld => ?_)
          clear hK K
          try dsimp only
          refine wpAnyH_ready (rs := [4]) (by kernel_rfl) (by simp) ?_
          refine (AllReadyH.cons rfl (fun K hK => ?_) AllReadyH.nil)
          go_simp
          (refine (HSp.out _ _ HD.out).mono ?_; rintro e W4 ⟨vW, rfl, hoW, hbX⟩; dsimp only; have HT := hid (hoW.mono (base' := w.heap.size) HK.out.l.size); (replace HK := hid (HK.out.later hbX)); (try replace HA := hid (HA.out.later hbX)); obtain ⟨aW, cW, rfl, _⟩ := hoW.sl; (try obtain ⟨z0, z1, z2, z3, z4, y0, y1, y2, y3, y4⟩ := HA.out.five))
          refine hK.out _ _ (by first | exact HKz.out | exact HK.out) (fun hHeld => ?_)
          clear hK K
          try dsimp only
          refine wpAnyH_ready (rs := [6]) (by kernel_rfl) (by simp) ?_
          refine (AllReadyH.cons rfl (fun K hK => ?_) AllReadyH.nil)
          go_simp
          (first | (have HKz := hid (a1_set (c := c) (d := ⟨ds, da, dr, dn⟩) HK.out HA.out hAz HT.out).r) | (have HKz := hid (a1_new (c := c) (d := ⟨ds, da, dr, dn⟩) HK.out HT.out).r))
          refine hK.out _ _ (by first | exact HKz.out | exact HK.out) (fun hHeld => ?_)
          clear hK K
          try simp only [List.getElem_toArray, List.getElem_cons_zero, List.getElem_cons_succ, Act.put, List.setIfInBounds_toArray, List.set_cons_zero, List.set_cons_succ]
          refine wpAnyH_done (by kernel_rfl) ?_ _
          refine NoPanic.normal ?_
          go_wp2_with fail
          go_meet
          case rel => first | exact ⟨_, _, rfl, a1_set (d := ⟨ds, da, dr, dn⟩) HK.out HA.out hAz HT.out⟩ | exact ⟨_, _, rfl, a1_new (d := ⟨ds, da, dr, dn⟩) HK.out HT.out⟩
      · go_simp
        (have hAz := HK.out.lt; obtain ⟨hk, ha⟩ := ar_new HK.out; replace HK := hid hk; (first | (have HA : Hid (Blk (w1.drew.alloc (.cells #[.int .i64 0, .slice none 0 0, .int .i64 0, .int .i64 0, .int .i64 0] 26)) w1.heap.size #[.int .i64 0, .slice none 0 0, .int .i64 0, .int .i64 0, .int .i64 0] 26) := ha) | (have HA := hid ha)); (try replace HD := hid (HD.out.later (bmore (Below.refl _ _) (.cells #[.int .i64 0, .slice none 0 0, .int .i64 0, .int .i64 0, .int .i64 0] 26)))); obtain ⟨z0, z1, z2, z3, z4, y0, y1, y2, y3, y4⟩ := HA.out.five)
        refine hK.out _ _ (by first | exact HKz.out | exact HK.out) (fun hHeld => ?_)
        clear hK K
        try simp only [List.getElem_toArray, List.getElem_cons_zero, List.getElem_cons_succ, Act.put, List.setIfInBounds_toArray, List.set_cons_zero, List.set_cons_succ]
        refine wpAnyH_ready (rs := [1]) (by kernel_rfl) (by simp) ?_
        refine (AllReadyH.cons rfl (fun K hK => ?_) AllReadyH.nil)
        go_simp
        (refine (toDecoder_calls _ x0 _ _ _ _ (HK.out.sl HS0.out) hlen).mono ?_; rintro e W2 ⟨g2, rfl, hoD, hbX⟩; (replace HK := hid (HK.out.later hbX)); (try replace HA := hid (HA.out.later hbX)); have HD := hid hoD.sl; (try obtain ⟨z0, z1, z2, z3, z4, y0, y1, y2, y3, y4⟩ := HA.out.five))
        refine hK.out _ _ (by first | exact HKz.out | exact HK.out) (fun hHeld => ?_)
        clear hK K
        try dsimp only
        refine wpAnyH_ready (rs := [3]) (by kernel_rfl) (by simp) ?_
        refine (AllReadyH.cons rfl (fun K hK => ?_) AllReadyH.nil)
        go_simp
        (refine (toSlot_calls _ _ _ _).mono ?_; rintro e W3 ⟨rfl, hbX⟩; (replace HK := hid (HK.out.later hbX)); (try replace HA := hid (HA.out.later hbX)); (try replace HD := hid (HD.out.later hbX)); (try obtain ⟨z0, z1, z2, z3, z4, y0, y1, y2, y3, y4⟩ := HA.out.five))
        refine hK.out _ _ (by first | exact HKz.out | exact HK.out) (fun hHeld => ?_)
        clear hK K
        try dsimp only
        refine wpAnyH_ready (rs := [4]) (by kernel_rfl) (by simp) ?_
        refine (AllReadyH.cons rfl (fun K hK => ?_) AllReadyH.nil)
        go_simp
        (refine (HSp.out _ _ HD.out).mono ?_; rintro e W4 ⟨vW, rfl, hoW, hbX⟩; dsimp only; have HT := hid (hoW.mono (base' := w.heap.size) HK.out.l.size); (replace HK := hid (HK.out.later hbX)); (try replace HA := hid (HA.out.later hbX)); obtain ⟨aW, cW, rfl, _⟩ := hoW.sl; (try obtain ⟨z0, z1, z2, z3, z4, y0, y1, y2, y3, y4⟩ := HA.out.five))
        refine hK.out _ _ (by first | exact HKz.out | exact HK.out) (fun hHeld => ?_)
        clear hK K
        try dsimp only
        refine wpAnyH_ready (rs := [6]) (by kernel_rfl) (by simp) ?_
        refine (AllReadyH.cons rfl (fun K hK => ?_) AllReadyH.nil)
        go_simp
        (first | (have HKz := hid (a1_set (c := c) (d := ⟨ds, da, dr, dn⟩) HK.out HA.out hAz HT.out).r) | (have HKz := hid (a1_new (c := c) (d := ⟨ds, da, dr, dn⟩) HK.out HT.out).r))
        refine hK.out _ _ (by first | exact HKz.out | exact HK.out) (fun hHeld => ?_)
        clear hK K
        try simp only [List.getElem_toArray, List.getElem_cons_zero, List.getElem_cons_succ, Act.put, List.setIfInBounds_toArray, List.set_cons_zero, List.set_cons_succ]
        refine wpAnyH_done (by kernel_rfl) ?_ _
        refine NoPanic.normal ?_
        go_wp2_with fail
        go_meet
        case rel => first | exact ⟨_, _, rfl, a1_set (d := ⟨ds, da, dr, dn⟩) HK.out HA.out hAz HT.out⟩ | exact ⟨_, _, rfl, a1_new (d := ⟨ds, da, dr, dn⟩) HK.out HT.out⟩
    case rest =>
      obtain ⟨A, vW, rfl, HA1⟩ := hcut
      obtain ⟨aW, cW, rfl, _⟩ := HA1.out.o.sl
      obtain ⟨c0, c1, c2, c3, _⟩ := HA1.out.r.p.four
      clear HK
      go_wp2_with fail
      refine (toDecoder_calls _ x0 _ _ _ _ (HA1.out.r.sl HS0.out) hlen).mono ?_
      rintro e w2 ⟨g2, rfl, ho2, hb2⟩
      have hA2 : A2 w a0 cap0 x0 u0 v0 r0 u1 v1 r1 A c (.slice aW ds.length cW) ⟨ds, da, dr, dn⟩ w2.heap.size wc.heap.size (w2.heap.size + 1) (.slice (some ⟨g2, 0, none⟩) x0.length x0.length) (w2.alloc (.cells #[.slice (some ⟨g2, 0, none⟩) x0.length x0.length, .int .i64 u0, .int .i64 v0, .int .i64 r0] 24)) :=
        ⟨(HA1.out.later hb2).later (bmore (Below.refl _ _) _), Blk.new _ _ _, ho2.alloc _, fun j e => (HA1.out.o.block j e).2, fun j e => by have := (ho2.block j e).2; omega, by have := hb2.size; omega, by simp, HA1.out.r.lt⟩
      have HL0 := hid hA2.l0
      have HA2 := hid hA2
      clear hA2 HA1 hb2 ho2 c0 c1 c2 c3
      go_upto_region 7 with fail
      have HK : Hid (A2 w a0 cap0 x0 u0 v0 r0 u1 v1 r1 A c (.slice aW ds.length cW) ⟨ds, da, dr, dn⟩ w2.heap.size wc.heap.size (w2.heap.size + 1) (.slice (some ⟨g2, 0, none⟩) x0.length x0.length) (w2.alloc (.cells #[.slice (some ⟨g2, 0, none⟩) x0.length x0.length, .int .i64 u0, .int .i64 v0, .int .i64 r0] 24)).drew) := HA2.out.drew
      clear HA2
      generalize w2.alloc (.cells #[.slice (some ⟨g2, 0, none⟩) x0.length x0.length, .int .i64 u0, .int .i64 v0, .int .i64 r0] 24) = w3 at *
      generalize w2.heap.size + 1 = Bx at *
      generalize w2.heap.size = B at *
      generalize wc.heap.size = m at *
      go_cut [8] from 25 to 28 (fun t wd => ∃ (q : Nat) (vG : Value), t = .pointer (some ⟨q, 0, none⟩) ∧ Hid (A3 w a0 cap0 x0 u0 v0 r0 u1 v1 r1 A c (.slice aW ds.length cW) ⟨ds, da, dr, dn⟩ B m Bx (.slice (some ⟨g2, 0, none⟩) x0.length x0.length) q vG ds wd))
      case first =>
        refine wp_region_noPanic ?_
        refine wp_region_held_drew (S := fun W => Blk W B #[.slice (some ⟨g2, 0, none⟩) x0.length x0.length, .int .i64 u0, .int .i64 v0, .int .i64 r0] 24 ∧ Blk W (w.heap.size + 1) #[.int .i64 u1, .int .i64 v1, .int .i64 r1] 44) (by kernel_rfl) (by first | exact ⟨HKz.out.b, HKz.out.a.r.s⟩ | exact ⟨HKz.out.b, HKz.out.ar.s⟩ | exact ⟨HK.out.b, HK.out.a.r.s⟩) (fun hHeld => ?_)
        (refine wpAnyH_take (i := 0) (v := ?_) rfl (by kernel_rfl) (by kernel_rfl) (by kernel_rfl) (fun _ _ _ h => h) (Or.inl ⟨by rfl, ?_⟩) hHeld ?_; rotate_left; (intro w hSw; (obtain ⟨c0, c1, c2, c3, _⟩ := hSw.1.four; obtain ⟨d0, d1, d2, _⟩ := hSw.2.three; clear hSw); (go_simp <;> with_reducible rfl)); simp only [List.getElem_toArray, List.getElem_cons_zero, Act.put, List.setIfInBounds_toArray, List.set_cons_zero, List.set_cons_succ])
        (refine wpAnyH_take (i := 1) (v := ?_) rfl (by kernel_rfl) (by kernel_rfl) (by kernel_rfl) (fun _ _ _ h => h) (Or.inl ⟨by rfl, ?_⟩) hHeld ?_; rotate_left; (intro w hSw; (obtain ⟨c0, c1, c2, c3, _⟩ := hSw.1.four; obtain ⟨d0, d1, d2, _⟩ := hSw.2.three; clear hSw); (go_simp <;> with_reducible rfl)); simp only [List.getElem_toArray, List.getElem_cons_zero, List.getElem_cons_succ, Act.put, List.setIfInBounds_toArray, List.set_cons_zero, List.set_cons_succ])
        refine wpAnyH_ready (rs := [2, 4]) (by kernel_rfl) (by simp) ?_
        refine (AllReadyH.cons rfl (fun K hK => ?_) (AllReadyH.cons rfl (fun K hK => ?_) AllReadyH.nil))
        · go_simp
          (refine (toSlot_calls _ _ _ _).mono ?_; rintro e W3 ⟨rfl, hbX⟩; (replace HK := hid (HK.out.later hbX)); (try replace HA := hid (HA.out.later hbX)); (try obtain ⟨z0, z1, z2, z3, z4, y0, y1, y2, y3, y4⟩ := HA.out.five))
          refine hK.out _ _ (by first | exact ⟨HKz.out.b, HKz.out.a.r.s⟩ | exact ⟨HKz.out.b, HKz.out.ar.s⟩ | exact ⟨HK.out.b, HK.out.a.r.s⟩) (fun hHeld => ?_)
          clear hK K
          try dsimp only
          refine wpAnyH_ready (rs := [3, 4]) (by kernel_rfl) (by simp) ?_
          refine (AllReadyH.cons rfl (fun K hK => ?_) (AllReadyH.cons rfl (fun K hK => ?_) AllReadyH.nil))
          · go_simp
            (refine (HIm.out _ _ HK.out.o.sl).mono ?_; rintro e W4 ⟨vG, rfl, hoG, hbX⟩; dsimp only; have HT := hid (hoG.mono (base' := Bx) HK.out.l2); (replace HK := hid (HK.out.later hbX)); (try replace HA := hid (HA.out.later hbX)); obtain ⟨aG, cG, rfl, _⟩ := hoG.sl; (try obtain ⟨z0, z1, z2, z3, z4, y0, y1, y2, y3, y4⟩ := HA.out.five))
            refine hK.out _ _ (by first | exact ⟨HKz.out.b, HKz.out.a.r.s⟩ | exact ⟨HKz.out.b, HKz.out.ar.s⟩ | exact ⟨HK.out.b, HK.out.a.r.s⟩) (fun hHeld => ?_)
            clear hK K
            try dsimp only
            refine wpAnyH_ready (rs := [4]) (by kernel_rfl) (by simp) ?_
            refine (AllReadyH.cons rfl (fun K hK => ?_) AllReadyH.nil)
            go_simp
            (have HKz := hid (a2_new HK.out).1)
            refine hK.out _ _ (by first | exact ⟨HKz.out.b, HKz.out.a.r.s⟩ | exact ⟨HKz.out.b, HKz.out.ar.s⟩ | exact ⟨HK.out.b, HK.out.a.r.s⟩) (fun hHeld => ?_)
            clear hK K
            try simp only [List.getElem_toArray, List.getElem_cons_zero, List.getElem_cons_succ, Act.put, List.setIfInBounds_toArray, List.set_cons_zero, List.set_cons_succ]
            refine wpAnyH_ready (rs := [5]) (by kernel_rfl) (by simp) ?_
            refine (AllReadyH.cons rfl (fun K hK => ?_) AllReadyH.nil)
            go_simp
            (first | (have HKz := hid (a3_set HK.out HA.out hAz hAne HT.out)) | (have HKz := hid (a3_new HK.out HT.out)))
            refine hK.out _ _ (by first | exact ⟨HKz.out.b, HKz.out.a.r.s⟩ | exact ⟨HKz.out.b, HKz.out.ar.s⟩ | exact ⟨HK.out.b, HK.out.a.r.s⟩) (fun hHeld => ?_)
            clear hK K
            try simp only [List.getElem_toArray, List.getElem_cons_zero, List.getElem_cons_succ, Act.put, List.setIfInBounds_toArray, List.set_cons_zero, List.set_cons_succ]
            refine wpAnyH_done (by kernel_rfl) ?_ _
            refine NoPanic.normal ?_
            go_wp2_with fail
            go_meet
            case rel => first | exact ⟨_, _, rfl, a3_set (d := ⟨ds, da, dr, dn⟩) HK.out HA.out hAz hAne HT.out⟩ | exact ⟨_, _, rfl, a3_new (d := ⟨ds, da, dr, dn⟩) HK.out HT.out⟩
          · go_simp
            (obtain ⟨hk, ha, hAz, hAne⟩ := a2_new HK.out; replace HK := hid hk; (first | (have HA : Hid (Blk (w3.drew.alloc (.cells #[.int .i64 0, .slice none 0 0, .int .i64 0, .int .i64 0, .int .i64 0] 26)) w3.heap.size #[.int .i64 0, .slice none 0 0, .int .i64 0, .int .i64 0, .int .i64 0] 26) := ha) | (have HA := hid ha)); obtain ⟨z0, z1, z2, z3, z4, y0, y1, y2, y3, y4⟩ := HA.out.five)
            refine hK.out _ _ (by first | exact ⟨HKz.out.b, HKz.out.a.r.s⟩ | exact ⟨HKz.out.b, HKz.out.ar.s⟩ | exact ⟨HK.out.b, HK.out.a.r.s⟩) (fun hHeld => ?_)
            clear hK K
            try simp only [List.getElem_toArray, List.getElem_cons_zero, List.getElem_cons_succ, Act.put, List.setIfInBounds_toArray, List.set_cons_zero, List.set_cons_succ]
            refine wpAnyH_ready (rs := [3]) (by kernel_rfl) (by simp) ?_
            refine (AllReadyH.cons rfl (fun K hK => ?_) AllReadyH.nil)
            go_simp
            (refine (HIm.out _ _ HK.out.o.sl).mono ?_; rintro e W4 ⟨vG, rfl, hoG, hbX⟩; dsimp only; have HT := hid (hoG.mono (base' := Bx) HK.out.l2); (replace HK := hid (HK.out.later hbX)); (try replace HA := hid (HA.out.later hbX)); obtain ⟨aG, cG, rfl, _⟩ := hoG.sl; (try obtain ⟨z0, z1, z2, z3, z4, y0, y1, y2, y3, y4⟩ := HA.out.five))
            refine hK.out _ _ (by first | exact ⟨HKz.out.b, HKz.out.a.r.s⟩ | exact ⟨HKz.out.b, HKz.out.ar.s⟩ | exact ⟨HK.out.b, HK.out.a.r.s⟩) (fun hHeld => ?_)
            clear hK K
            try dsimp only
            refine wpAnyH_ready (rs := [5]) (by kernel_rfl) (by simp) ?_
            refine (AllReadyH.cons rfl (fun K hK => ?_) AllReadyH.nil)
            go_simp
            (first | (have HKz := hid (a3_set HK.out HA.out hAz hAne HT.out)) | (have HKz := hid (a3_new HK.out HT.out)))
            refine hK.out _ _ (by first | exact ⟨HKz.out.b, HKz.out.a.r.s⟩ | exact ⟨HKz.out.b, HKz.out.ar.s⟩ | exact ⟨HK.out.b, HK.out.a.r.s⟩) (fun hHeld => ?_)
            clear hK K
            try simp only [List.getElem_toArray, List.getElem_cons_zero, List.getElem_cons_succ, Act.put, List.setIfInBounds_toArray, List.set_cons_zero, List.set_cons_succ]
            refine wpAnyH_done (by kernel_rfl) ?_ _
            refine NoPanic.normal ?_
            go_wp2_with fail
            go_meet
            case rel => first | exact ⟨_, _, rfl, a3_set (d := ⟨ds, da, dr, dn⟩) HK.out HA.out hAz hAne HT.out⟩ | exact ⟨_, _, rfl, a3_new (d := ⟨ds, da, dr, dn⟩) HK.out HT.out⟩
        · go_simp
          (obtain ⟨hk, ha, hAz, hAne⟩ := a2_new HK.out; replace HK := hid hk; (first | (have HA : Hid (Blk (w3.drew.alloc (.cells #[.int .i64 0, .slice none 0 0, .int .i64 0, .int .i64 0, .int .i64 0] 26)) w3.heap.size #[.int .i64 0, .slice none 0 0, .int .i64 0, .int .i64 0, .int .i64 0] 26) := ha) | (have HA := hid ha)); obtain ⟨z0, z1, z2, z3, z4, y0, y1, y2, y3, y4⟩ := HA.out.five)
          refine hK.out _ _ (by first | exact ⟨HKz.out.b, HKz.out.a.r.s⟩ | exact ⟨HKz.out.b, HKz.out.ar.s⟩ | exact ⟨HK.out.b, HK.out.a.r.s⟩) (fun hHeld => ?_)
          clear hK K
          try simp only [List.getElem_toArray, List.getElem_cons_zero, List.getElem_cons_succ, Act.put, List.setIfInBounds_toArray, List.set_cons_zero, List.set_cons_succ]
          refine wpAnyH_ready (rs := [2]) (by kernel_rfl) (by simp) ?_
          refine (AllReadyH.cons rfl (fun K hK => ?_) AllReadyH.nil)
          go_simp
          (refine (toSlot_calls _ _ _ _).mono ?_; rintro e W3 ⟨rfl, hbX⟩; (replace HK := hid (HK.out.later hbX)); (try replace HA := hid (HA.out.later hbX)); (try obtain ⟨z0, z1, z2, z3, z4, y0, y1, y2, y3, y4⟩ := HA.out.five))
          refine hK.out _ _ (by first | exact ⟨HKz.out.b, HKz.out.a.r.s⟩ | exact ⟨HKz.out.b, HKz.out.ar.s⟩ | exact ⟨HK.out.b, HK.out.a.r.s⟩) (fun hHeld => ?_)
          clear hK K
          try dsimp only
          refine wpAnyH_ready (rs := [3]) (by kernel_rfl) (by simp) ?_
          refine (AllReadyH.cons rfl (fun K hK => ?_) AllReadyH.nil)
          go_simp
          (refine (HIm.out _ _ HK.out.o.sl).mono ?_; rintro e W4 ⟨vG, rfl, hoG, hbX⟩; dsimp only; have HT := hid (hoG.mono (base' := Bx) HK.out.l2); (replace HK := hid (HK.out.later hbX)); (try replace HA := hid (HA.out.later hbX)); obtain ⟨aG, cG, rfl, _⟩ := hoG.sl; (try obtain ⟨z0, z1, z2, z3, z4, y0, y1, y2, y3, y4⟩ := HA.out.five))
          refine hK.out _ _ (by first | exact ⟨HKz.out.b, HKz.out.a.r.s⟩ | exact ⟨HKz.out.b, HKz.out.ar.s⟩ | exact ⟨HK.out.b, HK.out.a.r.s⟩) (fun hHeld => ?_)
          clear hK K
          try dsimp only
          refine wpAnyH_ready (rs := [5]) (by kernel_rfl) (by simp) ?_
          refine (AllReadyH.cons rfl (fun K hK => ?_) AllReadyH.nil)
          go_simp
          (first | (have HKz := hid (a3_set HK.out HA.out hAz hAne HT.out)) | (have HKz := hid (a3_new HK.out HT.out)))
          refine hK.out _ _ (by first | exact ⟨HKz.out.b, HKz.out.a.r.s⟩ | exact ⟨HKz.out.b, HKz.out.ar.s⟩ | exact ⟨HK.out.b, HK.out.a.r.s⟩) (fun hHeld => ?_)
          clear hK K
          try simp only [List.getElem_toArray, List.getElem_cons_zero, List.getElem_cons_succ, Act.put, List.setIfInBounds_toArray, List.set_cons_zero, List.set_cons_succ]
          refine wpAnyH_done (by kernel_rfl) ?_ _
          refine NoPanic.normal ?_
          go_wp2_with fail
          go_meet
          case rel => first | exact ⟨_, _, rfl, a3_set (d := ⟨ds, da, dr, dn⟩) HK.out HA.out hAz hAne HT.out⟩ | exact ⟨_, _, rfl, a3_new (d := ⟨ds, da, dr, dn⟩) HK.out HT.out⟩
      case rest =>
        obtain ⟨q, vG, rfl, HA3⟩ := hcut
        obtain ⟨aG, cG, rfl, _⟩ := HA3.out.k.oG.sl
        obtain ⟨p0, p1, p2, p3, p4, _⟩ := HA3.out.k.p.five
        obtain ⟨q0, q1, q2, q3, q4, _⟩ := HA3.out.k.q.five
        clear HK
        try dsimp only at p2 p3 p4 q2 q3 q4
        go_wp2_with fail
        refine (eqDecoderResult_calls _ _ _ _ _ _ _ _ HA3.out.k.oG.sl HA3.out.k.oW.sl hyl).mono ?_
        rintro e w6 ⟨rfl, hb6⟩
        have hH : A3 w a0 cap0 x0 u0 v0 r0 u1 v1 r1 A c (.slice aW ds.length cW) ⟨ds, da, dr, dn⟩ B m Bx (.slice (some ⟨g2, 0, none⟩) x0.length x0.length) q (.slice aG ds.length cG) ds w6.drew := (HA3.out.later hb6).drew
        clear HA3 hb6 p0 p1 p2 p3 p4 q0 q1 q2 q3 q4
        go_wp2_with fail
        refine wp_region_noPanic ?_
        refine wp_region_held_drew (S := fun W => A3 w a0 cap0 x0 u0 v0 r0 u1 v1 r1 A c (.slice aW ds.length cW) ⟨ds, da, dr, dn⟩ B m Bx (.slice (some ⟨g2, 0, none⟩) x0.length x0.length) q (.slice aG ds.length cG) ds W) (by kernel_rfl) ?_ (fun hHeld => ?_)
        · assumption
        (refine wpAnyH_take (i := 0) (v := ?_) rfl (by kernel_rfl) (by kernel_rfl) (by kernel_rfl) (fun _ _ _ h => h) (Or.inl ⟨by rfl, ?_⟩) hHeld ?_; rotate_left; (intro w hSw; (obtain ⟨c0, c1, c2, c3, _⟩ := hSw.ar.p.four; obtain ⟨d0, d1, d2, d3, _⟩ := hSw.b.four; clear hSw); (go_simp <;> with_reducible rfl)); simp only [List.getElem_toArray, List.getElem_cons_zero, Act.put, List.setIfInBounds_toArray, List.set_cons_zero, List.set_cons_succ])
        (refine wpAnyH_take (i := 1) (v := ?_) rfl (by kernel_rfl) (by kernel_rfl) (by kernel_rfl) (fun _ _ _ h => h) (Or.inl ⟨by rfl, ?_⟩) hHeld ?_; rotate_left; (intro w hSw; (obtain ⟨c0, c1, c2, c3, _⟩ := hSw.ar.p.four; obtain ⟨d0, d1, d2, d3, _⟩ := hSw.b.four; clear hSw); (go_simp <;> with_reducible rfl)); simp only [List.getElem_toArray, List.getElem_cons_zero, List.getElem_cons_succ, Act.put, List.setIfInBounds_toArray, List.set_cons_zero, List.set_cons_succ])
        (refine wpAnyH_ready (rs := [2]) (by kernel_rfl) (by simp) ?_; refine AllReadyH.cons rfl (fun K hK => ?_) AllReadyH.nil; go_simp; (refine (toDecoder_calls _ x0 _ _ _ _ (hHeld.ar.sl HS0.out) hlen).mono ?_; rintro e w7 ⟨g7, rfl, ho7, hb7⟩; have hK' := hHeld.later hb7); refine hK.out _ _ ?_ (fun hHeld => ?_); (assumption); clear hK K; try simp only [List.getElem_toArray, List.getElem_cons_zero, List.getElem_cons_succ, Act.put, List.setIfInBounds_toArray, List.set_cons_zero, List.set_cons_succ])
        (refine wpAnyH_ready (rs := [3]) (by kernel_rfl) (by simp) ?_; refine AllReadyH.cons rfl (fun K hK => ?_) AllReadyH.nil; go_simp; (refine (eqDecoder_calls _ _ x0 _ _ _ _ hHeld.o.sl ho7.sl hlen).mono ?_; rintro e w8 ⟨rfl, hb8⟩; have hK'' := hHeld.later hb8); refine hK.out _ _ ?_ (fun hHeld => ?_); (assumption); clear hK K; try simp only [List.getElem_toArray, List.getElem_cons_zero, List.getElem_cons_succ, Act.put, List.setIfInBounds_toArray, List.set_cons_zero, List.set_cons_succ])
        (refine wpAnyH_take (i := 4) (v := ?_) rfl (by kernel_rfl) (by kernel_rfl) (by kernel_rfl) (fun _ _ _ h => h) (Or.inl ⟨by rfl, ?_⟩) hHeld ?_; rotate_left; (intro w hSw; (obtain ⟨c0, c1, c2, c3, _⟩ := hSw.ar.p.four; obtain ⟨d0, d1, d2, d3, _⟩ := hSw.b.four; clear hSw); (go_simp <;> with_reducible rfl)); simp only [List.getElem_toArray, List.getElem_cons_zero, List.getElem_cons_succ, Act.put, List.setIfInBounds_toArray, List.set_cons_zero, List.set_cons_succ])
        refine wpAnyH_done (by kernel_rfl) ?_ _
        refine NoPanic.normal ?_
        have HA4 := hid hHeld
        clear hHeld hH
        obtain ⟨d0, d1, d2, d3, _⟩ := HA4.out.b.four
        go_wp2_with fail
        refine (markDecoder_calls _ _ x0 _ _ _ _ 1 HA4.out.o hlen (by omega)).mono ?_
        rintro e w9 ⟨rfl, _, hg9⟩
        obtain ⟨hR9, hK9⟩ := HA4.out.markX hg9
        have HR9 := hid hR9
        have HK9 := hid hK9
        have hcast : (((1 + x0.length : Nat) : Int)) = 1 + (x0.length : Int) := by omega
        rw [hcast]
        clear hcast HA4 hg9 hR9 hK9 d0 d1 d2 d3
        obtain ⟨p0, p1, p2, p3, p4, _⟩ := HK9.out.p.five
        obtain ⟨q0, q1, q2, q3, q4, _⟩ := HK9.out.q.five
        try dsimp only at p2 p3 p4 q2 q3 q4
        go_wp2_with fail
        refine (eqDecoderResult_calls _ _ _ _ _ _ _ _ HK9.out.oG.sl HK9.out.oW.sl hyl).mono ?_
        rintro e wa ⟨rfl, hba⟩
        have HKa := hid (HK9.out.later hba)
        have HRa := hid (HR9.out.later hba)
        clear HK9 HR9 hba p0 p1 p2 p3 p4 q0 q1 q2 q3 q4
        obtain ⟨q0, q1, q2, q3, q4, _⟩ := HKa.out.q.five
        try dsimp only at q2 q3 q4
        go_wp2_with fail
        refine (markDecoderResult_calls _ _ _ _ _ _ _ _ 1 HKa.out.oG hyl (by omega)).mono ?_
        rintro e wb ⟨rfl, hob, hgb⟩
        have HRb := hid (HRa.out.turn hgb (fun j e => by have h1 := (HKa.out.oG.block j e).1; have h2 := HKa.out.l1; have h3 := HL0.out; omega))
        have HKb := hid (HKa.out.markG (by decide) hgb hob)
        have hcast : (((1 + ds.length : Nat) : Int)) = 1 + (ds.length : Int) := by omega
        rw [hcast]
        have HC := hid hcast
        clear hcast HKa HRa hgb hob q0 q1 q2 q3 q4
        obtain ⟨q0, q1, q2, q3, q4, _⟩ := HKb.out.q.five
        try dsimp only at q2 q3 q4
        go_wp2_with fail
        refine (heldDecoderResult_calls _ _ _ _ _ _ _ 1 HKb.out.oG.sl hyl (by omega)).mono ?_
        rintro e wc2 ⟨rfl, hbc⟩
        have HKe := hid (HKb.out.later hbc)
        have HRe := hid (HRb.out.later hbc)
        rw [HC.out]
        clear HKb HRb hbc q0 q1 q2 q3 q4
        go_upto_region 24 with fail
        have HK : Hid (AR w a0 cap0 x0 u0 v0 r0 u1 v1 r1 wc2.drew) := HRe.out.drew
        have HQ : Hid (KQ w A q m Bx #[.int .i64 c, .slice aW ds.length cW, .int .i64 da, .int .i64 dr, .int .i64 dn] #[.int .i64 c, .slice aG ds.length cG, .int .i64 da, .int .i64 dr, .int .i64 dn] 26 (.slice aW ds.length cW) (.slice aG ds.length cG) ds (marks 1 ds.length) wc2.drew) := HKe.out.drew
        clear HKe HRe
        go_cut [12] from 60 to 64 (fun t wd => ∃ (Q : Nat) (vV : Value), t = .pointer (some ⟨Q, 0, none⟩) ∧ Hid (A5 w A q m Bx #[.int .i64 c, .slice aW ds.length cW, .int .i64 da, .int .i64 dr, .int .i64 dn] #[.int .i64 c, .slice aG ds.length cG, .int .i64 da, .int .i64 dr, .int .i64 dn] (.slice aW ds.length cW) (.slice aG ds.length cG) ds (marks 1 ds.length) c Q vV ⟨ds, da, dr, dn⟩ wd))
        case first =>
          refine wp_region_noPanic ?_
          refine wp_region_held_drew (S := fun W => Blk W w.heap.size #[.slice a0 x0.length cap0, .int .i64 u0, .int .i64 v0, .int .i64 r0] 34 ∧ Blk W (w.heap.size + 1) #[.int .i64 u1, .int .i64 v1, .int .i64 r1] 44) (by kernel_rfl) (by first | exact ⟨HKz.out.p, HKz.out.s⟩ | exact ⟨HK.out.p, HK.out.s⟩) (fun hHeld => ?_)
          (refine wpAnyH_take (i := 0) (v := ?_) rfl (by kernel_rfl) (by kernel_rfl) (by kernel_rfl) (fun _ _ _ h => h) (Or.inl ⟨by rfl, ?_⟩) hHeld ?_; rotate_left; (intro w hSw; (obtain ⟨c0, c1, c2, c3, _⟩ := hSw.1.four; obtain ⟨d0, d1, d2, _⟩ := hSw.2.three; clear hSw); (go_simp <;> with_reducible rfl)); simp only [List.getElem_toArray, List.getElem_cons_zero, Act.put, List.setIfInBounds_toArray, List.set_cons_zero, List.set_cons_succ])
          (refine wpAnyH_take (i := 2) (v := ?_) rfl (by kernel_rfl) (by kernel_rfl) (by kernel_rfl) (fun _ _ _ h => h) (Or.inl ⟨by rfl, ?_⟩) hHeld ?_; rotate_left; (intro w hSw; (obtain ⟨c0, c1, c2, c3, _⟩ := hSw.1.four; obtain ⟨d0, d1, d2, _⟩ := hSw.2.three; clear hSw); (go_simp <;> with_reducible rfl)); simp only [List.getElem_toArray, List.getElem_cons_zero, List.getElem_cons_succ, Act.put, List.setIfInBounds_toArray, List.set_cons_zero, List.set_cons_succ])
          refine wpAnyH_ready (rs := [1, 5]) (by kernel_rfl) (by simp) ?_
          refine (AllReadyH.cons rfl (fun K hK => ?_) (AllReadyH.cons rfl (fun K hK => ?_) AllReadyH.nil))
          · go_simp
            (refine (toDecoder_calls _ x0 _ _ _ _ (HK.out.sl HS0.out) hlen).mono ?_; rintro e W2 ⟨g7, rfl, hoD, hbX⟩; (replace HK := hid (HK.out.later hbX)); (replace HQ := hid (HQ.out.later hbX)); (try replace HA := hid (HA.out.later hbX)); have HD := hid hoD.sl; (try obtain ⟨z0, z1, z2, z3, z4, y0, y1, y2, y3, y4⟩ := HA.out.five))
            refine hK.out _ _ (by first | exact ⟨HKz.out.p, HKz.out.s⟩ | exact ⟨HK.out.p, HK.out.s⟩) (fun hHeld => ?_)
            clear hK K
            try dsimp only
            refine wpAnyH_ready (rs := [3, 5]) (by kernel_rfl) (by simp) ?_
            refine (AllReadyH.cons rfl (fun K hK => ?_) (AllReadyH.cons rfl (fun K hK => ?_) AllReadyH.nil))
            · go_simp
              (refine (toSlot_calls _ _ _ _).mono ?_; rintro e W3 ⟨rfl, hbX⟩; (replace HK := hid (HK.out.later hbX)); (replace HQ := hid (HQ.out.later hbX)); (try replace HA := hid (HA.out.later hbX)); (try replace HD := hid (HD.out.later hbX)); (try obtain ⟨z0, z1, z2, z3, z4, y0, y1, y2, y3, y4⟩ := HA.out.five))
              refine hK.out _ _ (by first | exact ⟨HKz.out.p, HKz.out.s⟩ | exact ⟨HK.out.p, HK.out.s⟩) (fun hHeld => ?_)
              clear hK K
              try dsimp only
              refine wpAnyH_ready (rs := [4, 5]) (by kernel_rfl) (by simp) ?_
              refine (AllReadyH.cons rfl (fun K hK => ?_) (AllReadyH.cons rfl (fun K hK => ?_) AllReadyH.nil))
              · go_simp
                (refine (HIm.out _ _ HD.out).mono ?_; rintro e W4 ⟨vV, rfl, hoV, hbX⟩; dsimp only; have HT := hid (hoV.mono (base' := w.heap.size) HK.out.l.size); (replace HK := hid (HK.out.later hbX)); (replace HQ := hid (HQ.out.later hbX)); (try replace HA := hid (HA.out.later hbX)); obtain ⟨aV, cV, rfl, _⟩ := hoV.sl; (try obtain ⟨z0, z1, z2, z3, z4, y0, y1, y2, y3, y4⟩ := HA.out.five))
                refine hK.out _ _ (by first | exact ⟨HKz.out.p, HKz.out.s⟩ | exact ⟨HK.out.p, HK.out.s⟩) (fun hHeld => ?_)
                clear hK K
                try dsimp only
                refine wpAnyH_ready (rs := [5]) (by kernel_rfl) (by simp) ?_
                refine (AllReadyH.cons rfl (fun K hK => ?_) AllReadyH.nil)
                go_simp
                (have HKz := hid (ar_new HK.out).1)
                refine hK.out _ _ (by first | exact ⟨HKz.out.p, HKz.out.s⟩ | exact ⟨HK.out.p, HK.out.s⟩) (fun hHeld => ?_)
                clear hK K
                try simp only [List.getElem_toArray, List.getElem_cons_zero, List.getElem_cons_succ, Act.put, List.setIfInBounds_toArray, List.set_cons_zero, List.set_cons_succ]
                refine wpAnyH_ready (rs := [6]) (by kernel_rfl) (by simp) ?_
                refine (AllReadyH.cons rfl (fun K hK => ?_) AllReadyH.nil)
                go_simp
                (first | (have HKz := hid (a1_set (c := c) (d := ⟨ds, da, dr, dn⟩) HK.out HA.out hAz HT.out).r) | (have HKz := hid (a1_new (c := c) (d := ⟨ds, da, dr, dn⟩) HK.out HT.out).r))
                refine hK.out _ _ (by first | exact ⟨HKz.out.p, HKz.out.s⟩ | exact ⟨HK.out.p, HK.out.s⟩) (fun hHeld => ?_)
                clear hK K
                try simp only [List.getElem_toArray, List.getElem_cons_zero, List.getElem_cons_succ, Act.put, List.setIfInBounds_toArray, List.set_cons_zero, List.set_cons_succ]
                refine wpAnyH_done (by kernel_rfl) ?_ _
                refine NoPanic.normal ?_
                go_wp2_with fail
                go_meet
                case rel => first | exact ⟨_, _, rfl, a5_set (d := ⟨ds, da, dr, dn⟩) HQ.out HA.out hne HT.out⟩ | exact ⟨_, _, rfl, a5_new (d := ⟨ds, da, dr, dn⟩) HQ.out HT.out⟩
              · go_simp
                (have hAz := HK.out.lt; obtain ⟨hq, ha, hne⟩ := kq_new HQ.out; have hk := (ar_new HK.out).1; replace HK := hid hk; replace HQ := hid hq; (first | (have HA : Hid (Blk (wc2.drew.alloc (.cells #[.int .i64 0, .slice none 0 0, .int .i64 0, .int .i64 0, .int .i64 0] 26)) wc2.heap.size #[.int .i64 0, .slice none 0 0, .int .i64 0, .int .i64 0, .int .i64 0] 26) := ha) | (have HA := hid ha)); (try replace HD := hid (HD.out.later (bmore (Below.refl _ _) (.cells #[.int .i64 0, .slice none 0 0, .int .i64 0, .int .i64 0, .int .i64 0] 26)))); obtain ⟨z0, z1, z2, z3, z4, y0, y1, y2, y3, y4⟩ := HA.out.five)
                refine hK.out _ _ (by first | exact ⟨HKz.out.p, HKz.out.s⟩ | exact ⟨HK.out.p, HK.out.s⟩) (fun hHeld => ?_)
                clear hK K
                try simp only [List.getElem_toArray, List.getElem_cons_zero, List.getElem_cons_succ, Act.put, List.setIfInBounds_toArray, List.set_cons_zero, List.set_cons_succ]
                refine wpAnyH_ready (rs := [4]) (by kernel_rfl) (by simp) ?_
                refine (AllReadyH.cons rfl (fun K hK => ?_) AllReadyH.nil)
                go_simp
                (refine (HIm.out _ _ HD.out).mono ?_; rintro e W4 ⟨vV, rfl, hoV, hbX⟩; dsimp only; have HT := hid (hoV.mono (base' := w.heap.size) HK.out.l.size); (replace HK := hid (HK.out.later hbX)); (replace HQ := hid (HQ.out.later hbX)); (try replace HA := hid (HA.out.later hbX)); obtain ⟨aV, cV, rfl, _⟩ := hoV.sl; (try obtain ⟨z0, z1, z2, z3, z4, y0, y1, y2, y3, y4⟩ := HA.out.five))
                refine hK.out _ _ (by first | exact ⟨HKz.out.p, HKz.out.s⟩ | exact ⟨HK.out.p, HK.out.s⟩) (fun hHeld => ?_)
                clear hK K
                try dsimp only
                refine wpAnyH_ready (rs := [6]) (by kernel_rfl) (by simp) ?_
                refine (AllReadyH.cons rfl (fun K hK => ?_) AllReadyH.nil)
                go_simp
                (first | (have HKz := hid (a1_set (c := c) (d := ⟨ds, da, dr, dn⟩) HK.out HA.out hAz HT.out).r) | (have HKz := hid (a1_new (c := c) (d := ⟨ds, da, dr, dn⟩) HK.out HT.out).r))
                refine hK.out _ _ (by first | exact ⟨HKz.out.p, HKz.out.s⟩ | exact ⟨HK.out.p, HK.out.s⟩) (fun hHeld => ?_)
                clear hK K
                try simp only [List.getElem_toArray, List.getElem_cons_zero, List.getElem_cons_succ, Act.put, List.setIfInBounds_toArray, List.set_cons_zero, List.set_cons_succ]
                refine wpAnyH_done (by kernel_rfl) ?_ _
                refine NoPanic.normal ?_
                go_wp2_with fail
                go_meet
                case rel => first | exact ⟨_, _, rfl, a5_set (d := ⟨ds, da, dr, dn⟩) HQ.out HA.out hne HT.out⟩ | exact ⟨_, _, rfl, a5_new (d := ⟨ds, da, dr, dn⟩) HQ.out HT.out⟩
            · go_simp
              (have hAz := HK.out.lt; obtain ⟨hq, ha, hne⟩ := kq_new HQ.out; have hk := (ar_new HK.out).1; replace HK := hid hk; replace HQ := hid hq; (first | (have HA : Hid (Blk (wc2.drew.alloc (.cells #[.int .i64 0, .slice none 0 0, .int .i64 0, .int .i64 0, .int .i64 0] 26)) wc2.heap.size #[.int .i64 0, .slice none 0 0, .int .i64 0, .int .i64 0, .int .i64 0] 26) := ha) | (have HA := hid ha)); (try replace HD := hid (HD.out.later (bmore (Below.refl _ _) (.cells #[.int .i64 0, .slice none 0 0, .int .i64 0, .int .i64 0, .int .i64 0] 26)))); obtain ⟨z0, z1, z2, z3, z4, y0, y1, y2, y3, y4⟩ := HA.out.five)
              refine hK.out _ _ (by first | exact ⟨HKz.out.p, HKz.out.s⟩ | exact ⟨HK.out.p, HK.out.s⟩) (fun hHeld => ?_)
              clear hK K
              try simp only [List.getElem_toArray, List.getElem_cons_zero, List.getElem_cons_succ, Act.put, List.setIfInBounds_toArray, List.set_cons_zero, List.set_cons_succ]
              refine wpAnyH_ready (rs := [3]) (by kernel_rfl) (by simp) ?_
              refine (AllReadyH.cons rfl (fun K hK => ?_) AllReadyH.nil)
              go_simp
              (refine (toSlot_calls _ _ _ _).mono ?_; rintro e W3 ⟨rfl, hbX⟩; (replace HK := hid (HK.out.later hbX)); (replace HQ := hid (HQ.out.later hbX)); (try replace HA := hid (HA.out.later hbX)); (try replace HD := hid (HD.out.later hbX)); (try obtain ⟨z0, z1, z2, z3, z4, y0, y1, y2, y3, y4⟩ := HA.out.five))
              refine hK.out _ _ (by first | exact ⟨HKz.out.p, HKz.out.s⟩ | exact ⟨HK.out.p, HK.out.s⟩) (fun hHeld => ?_)
              clear hK K
              try dsimp only
              refine wpAnyH_ready (rs := [4]) (by kernel_rfl) (by simp) ?_
              refine (AllReadyH.cons rfl (fun K hK => ?_) AllReadyH.nil)
              go_simp
              (refine (HIm.out _ _ HD.out).mono ?_; rintro e W4 ⟨vV, rfl, hoV, hbX⟩; dsimp only; have HT := hid (hoV.mono (base' := w.heap.size) HK.out.l.size); (replace HK := hid (HK.out.later hbX)); (replace HQ := hid (HQ.out.later hbX)); (try replace HA := hid (HA.out.later hbX)); obtain ⟨aV, cV, rfl, _⟩ := hoV.sl; (try obtain ⟨z0, z1, z2, z3, z4, y0, y1, y2, y3, y4⟩ := HA.out.five))
              refine hK.out _ _ (by first | exact ⟨HKz.out.p, HKz.out.s⟩ | exact ⟨HK.out.p, HK.out.s⟩) (fun hHeld => ?_)
              clear hK K
              try dsimp only
              refine wpAnyH_ready (rs := [6]) (by kernel_rfl) (by simp) ?_
              refine (AllReadyH.cons rfl (fun K hK => ?_) AllReadyH.nil)
              go_simp
              (first | (have HKz := hid (a1_set (c := c) (d := ⟨ds, da, dr, dn⟩) HK.out HA.out hAz HT.out).r) | (have HKz := hid (a1_new (c := c) (d := ⟨ds, da, dr, dn⟩) HK.out HT.out).r))
              refine hK.out _ _ (by first | exact ⟨HKz.out.p, HKz.out.s⟩ | exact ⟨HK.out.p, HK.out.s⟩) (fun hHeld => ?_)
              clear hK K
              try simp only [List.getElem_toArray, List.getElem_cons_zero, List.getElem_cons_succ, Act.put, List.setIfInBounds_toArray, List.set_cons_zero, List.set_cons_succ]
              refine wpAnyH_done (by kernel_rfl) ?_ _
              refine NoPanic.normal ?_
              go_wp2_with fail
              go_meet
              case rel => first | exact ⟨_, _, rfl, a5_set (d := ⟨ds, da, dr, dn⟩) HQ.out HA.out hne HT.out⟩ | exact ⟨_, _, rfl, a5_new (d := ⟨ds, da, dr, dn⟩) HQ.out HT.out⟩
          · go_simp
            (have hAz := HK.out.lt; obtain ⟨hq, ha, hne⟩ := kq_new HQ.out; have hk := (ar_new HK.out).1; replace HK := hid hk; replace HQ := hid hq; (first | (have HA : Hid (Blk (wc2.drew.alloc (.cells #[.int .i64 0, .slice none 0 0, .int .i64 0, .int .i64 0, .int .i64 0] 26)) wc2.heap.size #[.int .i64 0, .slice none 0 0, .int .i64 0, .int .i64 0, .int .i64 0] 26) := ha) | (have HA := hid ha)); (try replace HD := hid (HD.out.later (bmore (Below.refl _ _) (.cells #[.int .i64 0, .slice none 0 0, .int .i64 0, .int .i64 0, .int .i64 0] 26)))); obtain ⟨z0, z1, z2, z3, z4, y0, y1, y2, y3, y4⟩ := HA.out.five)
            refine hK.out _ _ (by first | exact ⟨HKz.out.p, HKz.out.s⟩ | exact ⟨HK.out.p, HK.out.s⟩) (fun hHeld => ?_)
            clear hK K
            try simp only [List.getElem_toArray, List.getElem_cons_zero, List.getElem_cons_succ, Act.put, List.setIfInBounds_toArray, List.set_cons_zero, List.set_cons_succ]
            refine wpAnyH_ready (rs := [1]) (by kernel_rfl) (by simp) ?_
            refine (AllReadyH.cons rfl (fun K hK => ?_) AllReadyH.nil)
            go_simp
            (refine (toDecoder_calls _ x0 _ _ _ _ (HK.out.sl HS0.out) hlen).mono ?_; rintro e W2 ⟨g7, rfl, hoD, hbX⟩; (replace HK := hid (HK.out.later hbX)); (replace HQ := hid (HQ.out.later hbX)); (try replace HA := hid (HA.out.later hbX)); have HD := hid hoD.sl; (try obtain ⟨z0, z1, z2, z3, z4, y0, y1, y2, y3, y4⟩ := HA.out.five))
            refine hK.out _ _ (by first | exact ⟨HKz.out.p, HKz.out.s⟩ | exact ⟨HK.out.p, HK.out.s⟩) (fun hHeld => ?_)
            clear hK K
            try dsimp only
            refine wpAnyH_ready (rs := [3]) (by kernel_rfl) (by simp) ?_
            refine (AllReadyH.cons rfl (fun K hK => ?_) AllReadyH.nil)
            go_simp
            (refine (toSlot_calls _ _ _ _).mono ?_; rintro e W3 ⟨rfl, hbX⟩; (replace HK := hid (HK.out.later hbX)); (replace HQ := hid (HQ.out.later hbX)); (try replace HA := hid (HA.out.later hbX)); (try replace HD := hid (HD.out.later hbX)); (try obtain ⟨z0, z1, z2, z3, z4, y0, y1, y2, y3, y4⟩ := HA.out.five))
            refine hK.out _ _ (by first | exact ⟨HKz.out.p, HKz.out.s⟩ | exact ⟨HK.out.p, HK.out.s⟩) (fun hHeld => ?_)
            clear hK K
            try dsimp only
            refine wpAnyH_ready (rs := [4]) (by kernel_rfl) (by simp) ?_
            refine (AllReadyH.cons rfl (fun K hK => ?_) AllReadyH.nil)
            go_simp
            (refine (HIm.out _ _ HD.out).mono ?_; rintro e W4 ⟨vV, rfl, hoV, hbX⟩; dsimp only; have HT := hid (hoV.mono (base' := w.heap.size) HK.out.l.size); (replace HK := hid (HK.out.later hbX)); (replace HQ := hid (HQ.out.later hbX)); (try replace HA := hid (HA.out.later hbX)); obtain ⟨aV, cV, rfl, _⟩ := hoV.sl; (try obtain ⟨z0, z1, z2, z3, z4, y0, y1, y2, y3, y4⟩ := HA.out.five))
            refine hK.out _ _ (by first | exact ⟨HKz.out.p, HKz.out.s⟩ | exact ⟨HK.out.p, HK.out.s⟩) (fun hHeld => ?_)
            clear hK K
            try dsimp only
            refine wpAnyH_ready (rs := [6]) (by kernel_rfl) (by simp) ?_
            refine (AllReadyH.cons rfl (fun K hK => ?_) AllReadyH.nil)
            go_simp
            (first | (have HKz := hid (a1_set (c := c) (d := ⟨ds, da, dr, dn⟩) HK.out HA.out hAz HT.out).r) | (have HKz := hid (a1_new (c := c) (d := ⟨ds, da, dr, dn⟩) HK.out HT.out).r))
            refine hK.out _ _ (by first | exact ⟨HKz.out.p, HKz.out.s⟩ | exact ⟨HK.out.p, HK.out.s⟩) (fun hHeld => ?_)
            clear hK K
            try simp only [List.getElem_toArray, List.getElem_cons_zero, List.getElem_cons_succ, Act.put, List.setIfInBounds_toArray, List.set_cons_zero, List.set_cons_succ]
            refine wpAnyH_done (by kernel_rfl) ?_ _
            refine NoPanic.normal ?_
            go_wp2_with fail
            go_meet
            case rel => first | exact ⟨_, _, rfl, a5_set (d := ⟨ds, da, dr, dn⟩) HQ.out HA.out hne HT.out⟩ | exact ⟨_, _, rfl, a5_new (d := ⟨ds, da, dr, dn⟩) HQ.out HT.out⟩
        case rest =>
          obtain ⟨Q, vV, rfl, H5⟩ := hcut
          obtain ⟨aV, cV, rfl, _⟩ := H5.out.o.sl
          clear HK HQ
          obtain ⟨p0, p1, p2, p3, p4, _⟩ := H5.out.k.p.five
          obtain ⟨z0, z1, z2, z3, z4, _⟩ := H5.out.p.five
          try dsimp only at p2 p3 p4 z2 z3 z4
          go_wp2_with fail
          refine (eqDecoderResult_calls _ _ _ _ _ _ _ _ H5.out.o.sl H5.out.k.oW.sl hyl).mono ?_
          rintro e we ⟨rfl, hbe⟩
          have HKh := hid (H5.out.k.later hbe)
          clear H5 hbe p0 p1 p2 p3 p4 z0 z1 z2 z3 z4
          obtain ⟨q0, q1, q2, q3, q4, _⟩ := HKh.out.q.five
          go_wp2_with fail
          refine (heldDecoderResult_calls _ _ _ _ _ _ _ 1 HKh.out.oG.sl hyl (by omega)).mono ?_
          rintro e wf ⟨rfl, hbf⟩
          have HL := hid (bthen HKh.out.bel hbf)
          rw [HC.out]
          clear HKh hbf q0 q1 q2 q3 q4
          go_wp2
          go_ret
          exact ⟨rfl, HL.out⟩
  · go_enter Try.func5, Try.ntmps5
    go_wp2_with fail
    refine (szDecoder_calls _ _ _ _ _ _ _ _ m0 (by omega) (by omega)).mono ?_
    rintro e w1 ⟨rfl, hb⟩
    rw [szV_no (by omega)]
    have HL := hid (HR.out.later hb).l
    clear hb HR
    go_wp2
    go_ret
    exact ⟨rfl, HL.out⟩

set_option maxRecDepth 100000 in
theorem lifted (os : Os) (started : os.Started) (H : Type) (enc : TypeId × Value → H) :
    ReturnsInHanded {} Try.checked os 5 .any (Rows.fnExactTakeSlotSpec.pre6 enc Try.prog Try.f5 Rows.fnExactTakeSlotRow.domain false) (Rows.fnExactTakeSlotSpec.post enc Try.prog Try.f5 false true false false) := by
  refine returnsInHanded_of_change (C := Try.checked) own started (by kernel_rfl) Try.func5
    (ChangeSpec.witness6 (enc := enc) (C := Try.checked) false ⟨#[], #[.agg #[.slice none 0 0, .int .i64 0, .int .i64 0, .int .i64 0], .agg #[.int .i64 0, .int .i64 0, .int .i64 0]], []⟩ 8 (by kernel_rfl) (by kernel_rfl) (by kernel_rfl) (by kernel_rfl)) ?_
  intro W base args ds gs before hval0 hW hcnd _
  have hval : ∀ (j : Nat) t v, Try.f5.params[j]? = some t → args[j]? = some v → Value.okWide Try.prog W .any base t v := hval0
  have hW' := hW
  obtain ⟨p, q, hA0, hV, rfl, hfz, hnd⟩ := hW
  have hA : DataW.TrodAll enc Try.prog W 0 (fun _ => true) true Try.f5.params.toList args.toList ds p := hA0
  rw [Try.params5] at hA hval
  obtain ⟨v0, vs0, d0, ds0, p0, q0, hargs, rfl, rfl, h0, rr0⟩ := trodAll_cons hA
  obtain ⟨v1, vs1, d1, ds1, p1, q1, rfl, rfl, rfl, h1, rr1⟩ := trodAll_cons rr0
  obtain ⟨rfl, rfl, rfl⟩ := trodAll_nil rr1
  obtain rfl : args = #[v0, v1] := by cases args; simp_all
  obtain ⟨rfl, rfl⟩ := trodVars_none hV
  have k0 := h0
  have lt0 : ∀ x ∈ p0, x.block < W.heap.size := by obtain ⟨m, hm⟩ := k0; exact DataW.trod_lt m _ _ _ hm
  obtain ⟨cs0, rfl, hc0⟩ := okWide_struct Try.underlying34 (hval 0 34 v0 rfl rfl)
  obtain ⟨a0, cap0, x0, u0, v0, r0, rfl, s0, b0, m0⟩ := Go.Proofs.Ytdmaeipiikknnab.OpnD.open_dec hc0 h0
  have k1 := h1
  have lt1 : ∀ x ∈ p1, x.block < W.heap.size := by obtain ⟨m, hm⟩ := k1; exact DataW.trod_lt m _ _ _ hm
  obtain ⟨cs1, rfl, hc1⟩ := okWide_struct Try.underlying44 (hval 1 44 v1 rfl rfl)
  obtain ⟨u1, v1, r1, rfl⟩ := Go.Proofs.Ytdmaeipiikknnab.OpnS.open_slot hc1 h1
  clear hA0 hval0
  refine (walk a0 cap0 x0 u0 v0 r0 u1 v1 r1 W s0 b0 m0).mono fun e W' ⟨he, bel⟩ => ?_
  subst he
  exact ⟨_, rfl, _, _, _, [], _, [], hW', trodAll_mk1 (shut_bool Try.underlying4 _), (trodAll_cons_mk (Below.trod laidOut (by kernel_rfl) (of_decide_eq_true (by kernel_rfl)) k0 bel lt0) (trodAll_cons_mk (Below.trod laidOut (by kernel_rfl) (of_decide_eq_true (by kernel_rfl)) k1 bel lt1) trodAll_mk0)), rfl, bel.frame _, fun h => by cases h⟩

theorem over : Rows.fnExactTakeSlotRow.holds Try.pinned (OpenSpec.ofChange Rows.fnExactTakeSlotSpec) :=
  OpenClaim.holds_of_wide 5 Try.f5 rfl rfl rfl rfl rfl rfl rfl ⟨rfl, rfl, rfl, rfl, rfl⟩ rfl rfl rfl rfl rfl (by kernel_rfl) Try.func5 (by kernel_rfl)
    (of_decide_eq_true (by kernel_rfl)) (by unfold Func.isWrapper; first | (rw [if_pos (by decide +kernel)]; kernel_rfl) | (rw [if_neg (by decide +kernel)]; exact ⟨rfl, rfl⟩))
    (fun os started H enc _ => lifted os started H enc)

theorem proved : Rows.FnExactTakeSlotSaid := over
#print axioms proved
end Go.Proofs.Ytdmaeipiikknnab.fnExactTakeSlot
