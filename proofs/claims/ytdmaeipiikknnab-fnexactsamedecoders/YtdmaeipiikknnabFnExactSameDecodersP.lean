/- For every two decoders the program's SameDecoders answers as the model's does, and leaves both as they were; nothing that was there turns. No conditions. -/
import Derived.Test.YtdmaeipiikknnabRows
import Derived.Test.YtdmaeipiikknnabNum
import Derived.Test.YtdmaeipiikknnabSli
import Derived.Test.YtdmaeipiikknnabApp
import Derived.Test.YtdmaeipiikknnabByt
import Derived.Test.YtdmaeipiikknnabCrcM
import Derived.Test.YtdmaeipiikknnabStr
import Derived.Test.YtdmaeipiikknnabDiv
import Derived.Test.YtdmaeipiikknnabDec
import Derived.Test.YtdmaeipiikknnabBlk
import Derived.Test.YtdmaeipiikknnabNxt
import Derived.Test.YtdmaeipiikknnabByte
import Derived.Test.YtdmaeipiikknnabTakS
import Derived.Test.YtdmaeipiikknnabTakT
import Derived.Test.YtdmaeipiikknnabExD
import Derived.Test.YtdmaeipiikknnabOpnD
import Derived.WalkKit
import Derived.ProofKit
import Derived.OpenShut
import Derived.ShutString
import Derived.ChangeOld
import Derived.Below
namespace Go.Proofs.Ytdmaeipiikknnab.fnExactSameDecoders
open Go.ChangeShapes Go.WideShapes Go.ChangeAt Go.RowKit
open Go.ChangeMaps (open_string shut_string)
set_option linter.unusedVariables false

theorem own : ownKnob Try.prog.godebug = none := by kernel_rfl
theorem laidOut : laidOutB Try.prog = true := by kernel_rfl

open Go.Proofs.Ytdmaeipiikknnab.Num Go.Proofs.Ytdmaeipiikknnab.Sli Go.Proofs.Ytdmaeipiikknnab.App Go.Proofs.Ytdmaeipiikknnab.Byt Go.Proofs.Ytdmaeipiikknnab.CrcM Go.Proofs.Ytdmaeipiikknnab.Div Go.Proofs.Ytdmaeipiikknnab.Dec Go.Proofs.Ytdmaeipiikknnab.Blk Go.Proofs.Ytdmaeipiikknnab.Nxt Go.Proofs.Ytdmaeipiikknnab.TakS Go.Proofs.Ytdmaeipiikknnab.TakT Go.Proofs.Ytdmaeipiikknnab.ExD
set_option maxHeartbeats 2000000 in
theorem walk (a0 : Option Addr) (cap0 : Nat) (x0 : List Int) (u0 v0 r0 : Int) (a1 : Option Addr) (cap1 : Nat) (x1 : List Int) (u1 v1 r1 : Int) (w : World) (s0 : Go.Proofs.Ytdmaeipiikknnab.Sli.Sl .u8 w (.slice a0 x0.length cap0) x0) (b0 : Go.Proofs.Ytdmaeipiikknnab.CrcM.BytesL x0) (m0 : x0.length ≤ maxLen) (s1 : Go.Proofs.Ytdmaeipiikknnab.Sli.Sl .u8 w (.slice a1 x1.length cap1) x1) (b1 : Go.Proofs.Ytdmaeipiikknnab.CrcM.BytesL x1) (m1 : x1.length ≤ maxLen) :
    Calls Try.prog 6 #[.agg #[.slice a0 x0.length cap0, .int .i64 u0, .int .i64 v0, .int .i64 r0], .agg #[.slice a1 x1.length cap1, .int .i64 u1, .int .i64 v1, .int .i64 r1]] w fun e w' => e = .returned (.bool true) ∧ Below w.heap.size w w' := by
  have hP : PD w w.heap.size a0 cap0 x0 u0 v0 r0 34 ((w.alloc (.cells #[.slice a0 x0.length cap0, .int .i64 u0, .int .i64 v0, .int .i64 r0] 34)).alloc (.cells #[.slice a1 x1.length cap1, .int .i64 u1, .int .i64 v1, .int .i64 r1] 34)) := (pd_new u0 v0 r0 _ s0).alloc _
  have hQ : PD w (w.heap.size + 1) a1 cap1 x1 u1 v1 r1 34 ((w.alloc (.cells #[.slice a0 x0.length cap0, .int .i64 u0, .int .i64 v0, .int .i64 r0] 34)).alloc (.cells #[.slice a1 x1.length cap1, .int .i64 u1, .int .i64 v1, .int .i64 r1] 34)) :=
    ⟨by have := Blk.new (w.alloc (.cells #[.slice a0 x0.length cap0, .int .i64 u0, .int .i64 v0, .int .i64 r0] 34)) #[.slice a1 x1.length cap1, .int .i64 u1, .int .i64 v1, .int .i64 r1] 34; rwa [World.size_alloc] at this, s1.later hP.l, hP.l⟩
  have HP := hid hP
  have HQ := hid hQ
  clear hP hQ
  by_cases h1 : (x0.length : Int) ≤ 1048576
  · by_cases h2 : (x1.length : Int) ≤ 1048576 - x0.length
    · have hl0 : x0.length ≤ 1048576 := by omega
      have hl1 : x1.length ≤ 1048576 := by omega
      have hz : 0 ≤ 1048576 - (x0.length : Int) := by omega
      have hz2 : 0 ≤ 1048576 - (x0.length : Int) - x1.length := by omega
      go_enter Try.func6, Try.ntmps6
      go_wp2_with fail
      refine (szDecoder_calls _ _ _ _ _ _ _ _ m0 (by omega) (by omega)).mono ?_
      rintro e w1 ⟨rfl, hb⟩
      rw [szV_yes h1]
      have HP1 := hid (HP.out.later hb)
      have HQ1 := hid (HQ.out.later hb)
      clear hb HP HQ
      obtain ⟨c0, c1, c2, c3, _⟩ := HQ1.out.p.four
      go_wp2_with fail
      refine (szDecoder_calls _ _ _ _ _ _ _ _ m1 (by omega) (by omega)).mono ?_
      rintro e w2 ⟨rfl, hb⟩
      rw [szV_yes h2]
      have hH : PD w w.heap.size a0 cap0 x0 u0 v0 r0 34 w2.drew ∧ PD w (w.heap.size + 1) a1 cap1 x1 u1 v1 r1 34 w2.drew := ⟨(HP1.out.later hb).drew, (HQ1.out.later hb).drew⟩
      clear hb HP1 HQ1 c0 c1 c2 c3
      go_wp2_with fail
      refine wp_region_noPanic ?_
      refine wp_region_held_drew (S := fun W => PD w w.heap.size a0 cap0 x0 u0 v0 r0 34 W ∧ PD w (w.heap.size + 1) a1 cap1 x1 u1 v1 r1 34 W) (by kernel_rfl) ?_ (fun hHeld => ?_)
      · assumption
      (refine wpAnyH_take (i := 0) (v := ?_) rfl (by kernel_rfl) (by kernel_rfl) (by kernel_rfl) (fun _ _ _ h => h) (Or.inl ⟨by rfl, ?_⟩) hHeld ?_; rotate_left; (intro w hSw; (obtain ⟨c0, c1, c2, c3, _⟩ := hSw.1.p.four; obtain ⟨d0, d1, d2, d3, _⟩ := hSw.2.p.four; clear hSw); (go_simp <;> with_reducible rfl)); simp only [List.getElem_toArray, List.getElem_cons_zero, Act.put, List.setIfInBounds_toArray, List.set_cons_zero, List.set_cons_succ])
      (refine wpAnyH_take (i := 2) (v := ?_) rfl (by kernel_rfl) (by kernel_rfl) (by kernel_rfl) (fun _ _ _ h => h) (Or.inl ⟨by rfl, ?_⟩) hHeld ?_; rotate_left; (intro w hSw; (obtain ⟨c0, c1, c2, c3, _⟩ := hSw.1.p.four; obtain ⟨d0, d1, d2, d3, _⟩ := hSw.2.p.four; clear hSw); (go_simp <;> with_reducible rfl)); simp only [List.getElem_toArray, List.getElem_cons_zero, List.getElem_cons_succ, Act.put, List.setIfInBounds_toArray, List.set_cons_zero, List.set_cons_succ])
      (refine wpAnyH_ready (rs := [1]) (by kernel_rfl) (by simp) ?_; refine AllReadyH.cons rfl (fun K hK => ?_) AllReadyH.nil; go_simp; (refine (toDecoder_calls _ x0 _ _ _ _ hHeld.1.s hl0).mono ?_; rintro e w3 ⟨g3, rfl, ho3, hb3⟩; have hK1 := And.intro (hHeld.1.later hb3) (hHeld.2.later hb3)); refine hK.out _ _ ?_ (fun hHeld => ?_); (assumption); clear hK K; try simp only [List.getElem_toArray, List.getElem_cons_zero, List.getElem_cons_succ, Act.put, List.setIfInBounds_toArray, List.set_cons_zero, List.set_cons_succ])
      (refine wpAnyH_ready (rs := [3]) (by kernel_rfl) (by simp) ?_; refine AllReadyH.cons rfl (fun K hK => ?_) AllReadyH.nil; go_simp; (refine (toDecoder_calls _ x1 _ _ _ _ hHeld.2.s hl1).mono ?_; rintro e w4 ⟨g4, rfl, ho4, hb4⟩; have hK2 := And.intro (hHeld.1.later hb4) (hHeld.2.later hb4)); refine hK.out _ _ ?_ (fun hHeld => ?_); (assumption); clear hK K; try simp only [List.getElem_toArray, List.getElem_cons_zero, List.getElem_cons_succ, Act.put, List.setIfInBounds_toArray, List.set_cons_zero, List.set_cons_succ])
      (refine wpAnyH_ready (rs := [4]) (by kernel_rfl) (by simp) ?_; refine AllReadyH.cons rfl (fun K hK => ?_) AllReadyH.nil; go_simp; (refine (specSame_calls _ _ x0 x1 _ _ _ _ _ _ _ (ho3.later hb4).sl ho4.sl b0 b1).mono ?_; rintro e w5 ⟨rfl, hb5⟩; have hK3 := And.intro (hHeld.1.later hb5) (hHeld.2.later hb5)); refine hK.out _ _ ?_ (fun hHeld => ?_); (assumption); clear hK K; try simp only [List.getElem_toArray, List.getElem_cons_zero, List.getElem_cons_succ, Act.put, List.setIfInBounds_toArray, List.set_cons_zero, List.set_cons_succ])
      (refine wpAnyH_take (i := 5) (v := ?_) rfl (by kernel_rfl) (by kernel_rfl) (by kernel_rfl) (fun _ _ _ h => h) (Or.inl ⟨by rfl, ?_⟩) hHeld ?_; rotate_left; (intro w hSw; (obtain ⟨c0, c1, c2, c3, _⟩ := hSw.1.p.four; obtain ⟨d0, d1, d2, d3, _⟩ := hSw.2.p.four; clear hSw); (go_simp <;> with_reducible rfl)); simp only [List.getElem_toArray, List.getElem_cons_zero, List.getElem_cons_succ, Act.put, List.setIfInBounds_toArray, List.set_cons_zero, List.set_cons_succ])
      refine wpAnyH_done (by kernel_rfl) ?_ _
      refine NoPanic.normal ?_
      have HP5 := hid hHeld.1
      have HQ5 := hid hHeld.2
      clear hHeld hH hK1 hK2 hK3 ho3 ho4 hb3 hb4 hb5
      obtain ⟨c0, c1, c2, c3, _⟩ := HP5.out.p.four
      go_wp2_with fail
      refine (toDecoder_calls _ x0 _ _ _ _ HP5.out.s hl0).mono ?_
      rintro e w6 ⟨g5, rfl, ho5, hb6⟩
      have HX6 : Hid (PD w w6.heap.size (some ⟨g5, 0, none⟩) x0.length x0 u0 v0 r0 24 (w6.alloc (.cells #[.slice (some ⟨g5, 0, none⟩) x0.length x0.length, .int .i64 u0, .int .i64 v0, .int .i64 r0] 24))) := ⟨Blk.new _ _ _, ho5.sl.later (bmore (Below.refl _ _) _), bmore (bthen HP5.out.l hb6) _⟩
      have HP6 := hid ((HP5.out.later hb6).alloc (.cells #[.slice (some ⟨g5, 0, none⟩) x0.length x0.length, .int .i64 u0, .int .i64 v0, .int .i64 r0] 24))
      have HQ6 := hid ((HQ5.out.later hb6).alloc (.cells #[.slice (some ⟨g5, 0, none⟩) x0.length x0.length, .int .i64 u0, .int .i64 v0, .int .i64 r0] 24))
      clear hb6 ho5 HP5 HQ5 c0 c1 c2 c3
      obtain ⟨c0, c1, c2, c3, _⟩ := HQ6.out.p.four
      go_wp2_with fail
      refine (toDecoder_calls _ x1 _ _ _ _ HQ6.out.s hl1).mono ?_
      rintro e w7 ⟨g6, rfl, ho6, hb7⟩
      have HY7 : Hid (PD w w7.heap.size (some ⟨g6, 0, none⟩) x1.length x1 u1 v1 r1 24 (w7.alloc (.cells #[.slice (some ⟨g6, 0, none⟩) x1.length x1.length, .int .i64 u1, .int .i64 v1, .int .i64 r1] 24))) := ⟨Blk.new _ _ _, ho6.sl.later (bmore (Below.refl _ _) _), bmore (bthen HQ6.out.l hb7) _⟩
      have HX7 := hid ((HX6.out.later hb7).alloc (.cells #[.slice (some ⟨g6, 0, none⟩) x1.length x1.length, .int .i64 u1, .int .i64 v1, .int .i64 r1] 24))
      have HP7 := hid ((HP6.out.later hb7).alloc (.cells #[.slice (some ⟨g6, 0, none⟩) x1.length x1.length, .int .i64 u1, .int .i64 v1, .int .i64 r1] 24))
      have HQ7 := hid ((HQ6.out.later hb7).alloc (.cells #[.slice (some ⟨g6, 0, none⟩) x1.length x1.length, .int .i64 u1, .int .i64 v1, .int .i64 r1] 24))
      clear hb7 ho6 HP6 HQ6 HX6 c0 c1 c2 c3
      generalize w6.heap.size = B5 at *
      obtain ⟨d0, d1, d2, d3, _⟩ := HX7.out.p.four
      go_wp2_with fail
      refine (implSame_calls _ _ x0 x1 _ _ _ _ _ _ _ HX7.out.s HY7.out.s b0 b1).mono ?_
      rintro e w8 ⟨rfl, hb8⟩
      have hH : PD w w.heap.size a0 cap0 x0 u0 v0 r0 34 w8.drew ∧ PD w (w.heap.size + 1) a1 cap1 x1 u1 v1 r1 34 w8.drew ∧ PD w B5 (some ⟨g5, 0, none⟩) x0.length x0 u0 v0 r0 24 w8.drew ∧ PD w w7.heap.size (some ⟨g6, 0, none⟩) x1.length x1 u1 v1 r1 24 w8.drew := ⟨(HP7.out.later hb8).drew, (HQ7.out.later hb8).drew, (HX7.out.later hb8).drew, (HY7.out.later hb8).drew⟩
      clear hb8 HP7 HQ7 HX7 HY7 d0 d1 d2 d3
      generalize w7.heap.size = B6 at *
      generalize samD x0 x1 u0 v0 r0 u1 v1 r1 = sm at *
      have hsm : (sm != sm) = false := by cases sm <;> rfl
      go_wp2_with fail
      refine wp_region_noPanic ?_
      refine wp_region_held_drew (S := fun W => PD w w.heap.size a0 cap0 x0 u0 v0 r0 34 W ∧ PD w (w.heap.size + 1) a1 cap1 x1 u1 v1 r1 34 W ∧ PD w B5 (some ⟨g5, 0, none⟩) x0.length x0 u0 v0 r0 24 W ∧ PD w B6 (some ⟨g6, 0, none⟩) x1.length x1 u1 v1 r1 24 W) (by kernel_rfl) ?_ (fun hHeld => ?_)
      · assumption
      (refine wpAnyH_take (i := 0) (v := ?_) rfl (by kernel_rfl) (by kernel_rfl) (by kernel_rfl) (fun _ _ _ h => h) (Or.inl ⟨by rfl, ?_⟩) hHeld ?_; rotate_left; (intro w hSw; (obtain ⟨c0, c1, c2, c3, _⟩ := hSw.1.p.four; obtain ⟨d0, d1, d2, d3, _⟩ := hSw.2.2.1.p.four; clear hSw); (go_simp <;> with_reducible rfl)); simp only [List.getElem_toArray, List.getElem_cons_zero, Act.put, List.setIfInBounds_toArray, List.set_cons_zero, List.set_cons_succ])
      (refine wpAnyH_take (i := 1) (v := ?_) rfl (by kernel_rfl) (by kernel_rfl) (by kernel_rfl) (fun _ _ _ h => h) (Or.inl ⟨by rfl, ?_⟩) hHeld ?_; rotate_left; (intro w hSw; (obtain ⟨c0, c1, c2, c3, _⟩ := hSw.1.p.four; obtain ⟨d0, d1, d2, d3, _⟩ := hSw.2.2.1.p.four; clear hSw); (go_simp <;> with_reducible rfl)); simp only [List.getElem_toArray, List.getElem_cons_zero, List.getElem_cons_succ, Act.put, List.setIfInBounds_toArray, List.set_cons_zero, List.set_cons_succ])
      (refine wpAnyH_ready (rs := [2]) (by kernel_rfl) (by simp) ?_; refine AllReadyH.cons rfl (fun K hK => ?_) AllReadyH.nil; go_simp; (refine (toDecoder_calls _ x0 _ _ _ _ hHeld.1.s hl0).mono ?_; rintro e wA0 ⟨gA0, rfl, hoA0, hbA⟩; have hK10 := And.intro (hHeld.1.later hbA) (And.intro (hHeld.2.1.later hbA) (And.intro (hHeld.2.2.1.later hbA) (hHeld.2.2.2.later hbA)))); refine hK.out _ _ ?_ (fun hHeld => ?_); (assumption); clear hK K; try simp only [List.getElem_toArray, List.getElem_cons_zero, List.getElem_cons_succ, Act.put, List.setIfInBounds_toArray, List.set_cons_zero, List.set_cons_succ])
      (refine wpAnyH_ready (rs := [3]) (by kernel_rfl) (by simp) ?_; refine AllReadyH.cons rfl (fun K hK => ?_) AllReadyH.nil; go_simp; (refine (eqDecoder_calls _ _ x0 _ _ _ _ hHeld.2.2.1.s hoA0.sl hl0).mono ?_; rintro e wB0 ⟨rfl, hbB⟩; have hK20 := And.intro (hHeld.1.later hbB) (And.intro (hHeld.2.1.later hbB) (And.intro (hHeld.2.2.1.later hbB) (hHeld.2.2.2.later hbB)))); refine hK.out _ _ ?_ (fun hHeld => ?_); (assumption); clear hK K; try simp only [List.getElem_toArray, List.getElem_cons_zero, List.getElem_cons_succ, Act.put, List.setIfInBounds_toArray, List.set_cons_zero, List.set_cons_succ])
      (refine wpAnyH_take (i := 4) (v := ?_) rfl (by kernel_rfl) (by kernel_rfl) (by kernel_rfl) (fun _ _ _ h => h) (Or.inl ⟨by rfl, ?_⟩) hHeld ?_; rotate_left; (intro w hSw; (obtain ⟨c0, c1, c2, c3, _⟩ := hSw.1.p.four; obtain ⟨d0, d1, d2, d3, _⟩ := hSw.2.2.1.p.four; clear hSw); (go_simp <;> with_reducible rfl)); simp only [List.getElem_toArray, List.getElem_cons_zero, List.getElem_cons_succ, Act.put, List.setIfInBounds_toArray, List.set_cons_zero, List.set_cons_succ])
      refine wpAnyH_done (by kernel_rfl) ?_ _
      refine NoPanic.normal ?_
      have hH2 : PD w w.heap.size a0 cap0 x0 u0 v0 r0 34 wB0.drew ∧ PD w (w.heap.size + 1) a1 cap1 x1 u1 v1 r1 34 wB0.drew ∧ PD w B5 (some ⟨g5, 0, none⟩) x0.length x0 u0 v0 r0 24 wB0.drew ∧ PD w B6 (some ⟨g6, 0, none⟩) x1.length x1 u1 v1 r1 24 wB0.drew := ⟨hHeld.1.drew, hHeld.2.1.drew, hHeld.2.2.1.drew, hHeld.2.2.2.drew⟩
      clear hHeld hH hK10 hK20 hoA0
      go_wp2_with fail
      refine wp_region_noPanic ?_
      refine wp_region_held_drew (S := fun W => PD w w.heap.size a0 cap0 x0 u0 v0 r0 34 W ∧ PD w (w.heap.size + 1) a1 cap1 x1 u1 v1 r1 34 W ∧ PD w B5 (some ⟨g5, 0, none⟩) x0.length x0 u0 v0 r0 24 W ∧ PD w B6 (some ⟨g6, 0, none⟩) x1.length x1 u1 v1 r1 24 W) (by kernel_rfl) ?_ (fun hHeld => ?_)
      · assumption
      (refine wpAnyH_take (i := 0) (v := ?_) rfl (by kernel_rfl) (by kernel_rfl) (by kernel_rfl) (fun _ _ _ h => h) (Or.inl ⟨by rfl, ?_⟩) hHeld ?_; rotate_left; (intro w hSw; (obtain ⟨c0, c1, c2, c3, _⟩ := hSw.2.1.p.four; obtain ⟨d0, d1, d2, d3, _⟩ := hSw.2.2.2.p.four; clear hSw); (go_simp <;> with_reducible rfl)); simp only [List.getElem_toArray, List.getElem_cons_zero, Act.put, List.setIfInBounds_toArray, List.set_cons_zero, List.set_cons_succ])
      (refine wpAnyH_take (i := 1) (v := ?_) rfl (by kernel_rfl) (by kernel_rfl) (by kernel_rfl) (fun _ _ _ h => h) (Or.inl ⟨by rfl, ?_⟩) hHeld ?_; rotate_left; (intro w hSw; (obtain ⟨c0, c1, c2, c3, _⟩ := hSw.2.1.p.four; obtain ⟨d0, d1, d2, d3, _⟩ := hSw.2.2.2.p.four; clear hSw); (go_simp <;> with_reducible rfl)); simp only [List.getElem_toArray, List.getElem_cons_zero, List.getElem_cons_succ, Act.put, List.setIfInBounds_toArray, List.set_cons_zero, List.set_cons_succ])
      (refine wpAnyH_ready (rs := [2]) (by kernel_rfl) (by simp) ?_; refine AllReadyH.cons rfl (fun K hK => ?_) AllReadyH.nil; go_simp; (refine (toDecoder_calls _ x1 _ _ _ _ hHeld.2.1.s hl1).mono ?_; rintro e wA1 ⟨gA1, rfl, hoA1, hbA⟩; have hK11 := And.intro (hHeld.1.later hbA) (And.intro (hHeld.2.1.later hbA) (And.intro (hHeld.2.2.1.later hbA) (hHeld.2.2.2.later hbA)))); refine hK.out _ _ ?_ (fun hHeld => ?_); (assumption); clear hK K; try simp only [List.getElem_toArray, List.getElem_cons_zero, List.getElem_cons_succ, Act.put, List.setIfInBounds_toArray, List.set_cons_zero, List.set_cons_succ])
      (refine wpAnyH_ready (rs := [3]) (by kernel_rfl) (by simp) ?_; refine AllReadyH.cons rfl (fun K hK => ?_) AllReadyH.nil; go_simp; (refine (eqDecoder_calls _ _ x1 _ _ _ _ hHeld.2.2.2.s hoA1.sl hl1).mono ?_; rintro e wB1 ⟨rfl, hbB⟩; have hK21 := And.intro (hHeld.1.later hbB) (And.intro (hHeld.2.1.later hbB) (And.intro (hHeld.2.2.1.later hbB) (hHeld.2.2.2.later hbB)))); refine hK.out _ _ ?_ (fun hHeld => ?_); (assumption); clear hK K; try simp only [List.getElem_toArray, List.getElem_cons_zero, List.getElem_cons_succ, Act.put, List.setIfInBounds_toArray, List.set_cons_zero, List.set_cons_succ])
      (refine wpAnyH_take (i := 4) (v := ?_) rfl (by kernel_rfl) (by kernel_rfl) (by kernel_rfl) (fun _ _ _ h => h) (Or.inl ⟨by rfl, ?_⟩) hHeld ?_; rotate_left; (intro w hSw; (obtain ⟨c0, c1, c2, c3, _⟩ := hSw.2.1.p.four; obtain ⟨d0, d1, d2, d3, _⟩ := hSw.2.2.2.p.four; clear hSw); (go_simp <;> with_reducible rfl)); simp only [List.getElem_toArray, List.getElem_cons_zero, List.getElem_cons_succ, Act.put, List.setIfInBounds_toArray, List.set_cons_zero, List.set_cons_succ])
      refine wpAnyH_done (by kernel_rfl) ?_ _
      refine NoPanic.normal ?_
      have HL := hid hHeld.1.l
      clear hHeld hH2 hK11 hK21 hoA1
      go_wp2
      go_ret
      exact ⟨rfl, HL.out⟩
    · have hz : 0 ≤ 1048576 - (x0.length : Int) := by omega
      go_enter Try.func6, Try.ntmps6
      go_wp2_with fail
      refine (szDecoder_calls _ _ _ _ _ _ _ _ m0 (by omega) (by omega)).mono ?_
      rintro e w1 ⟨rfl, hb⟩
      rw [szV_yes h1]
      have HP1 := hid (HP.out.later hb)
      have HQ1 := hid (HQ.out.later hb)
      clear hb HP HQ
      obtain ⟨c0, c1, c2, c3, _⟩ := HQ1.out.p.four
      go_wp2_with fail
      refine (szDecoder_calls _ _ _ _ _ _ _ _ m1 (by omega) (by omega)).mono ?_
      rintro e w2 ⟨rfl, hb⟩
      rw [szV_no (by omega)]
      have HL := hid (HP1.out.later hb).l
      clear hb HP1 HQ1 c0 c1 c2 c3
      go_wp2
      go_ret
      exact ⟨rfl, HL.out⟩
  · go_enter Try.func6, Try.ntmps6
    go_wp2_with fail
    refine (szDecoder_calls _ _ _ _ _ _ _ _ m0 (by omega) (by omega)).mono ?_
    rintro e w1 ⟨rfl, hb⟩
    rw [szV_no (by omega)]
    have HL := hid (HP.out.later hb).l
    clear hb HP HQ
    go_wp2
    go_ret
    exact ⟨rfl, HL.out⟩

set_option maxRecDepth 100000 in
theorem lifted (os : Os) (started : os.Started) (H : Type) (enc : TypeId × Value → H) :
    ReturnsInHanded {} Try.checked os 6 .any (Rows.fnExactSameDecodersSpec.pre6 enc Try.prog Try.f6 Rows.fnExactSameDecodersRow.domain false) (Rows.fnExactSameDecodersSpec.post enc Try.prog Try.f6 false true false false) := by
  refine returnsInHanded_of_change (C := Try.checked) own started (by kernel_rfl) Try.func6
    (ChangeSpec.witness6 (enc := enc) (C := Try.checked) false ⟨#[], #[.agg #[.slice none 0 0, .int .i64 0, .int .i64 0, .int .i64 0], .agg #[.slice none 0 0, .int .i64 0, .int .i64 0, .int .i64 0]], []⟩ 8 (by kernel_rfl) (by kernel_rfl) (by kernel_rfl) (by kernel_rfl)) ?_
  intro W base args ds gs before hval0 hW hcnd _
  have hval : ∀ (j : Nat) t v, Try.f6.params[j]? = some t → args[j]? = some v → Value.okWide Try.prog W .any base t v := hval0
  have hW' := hW
  obtain ⟨p, q, hA0, hV, rfl, hfz, hnd⟩ := hW
  have hA : DataW.TrodAll enc Try.prog W 0 (fun _ => true) true Try.f6.params.toList args.toList ds p := hA0
  rw [Try.params6] at hA hval
  obtain ⟨v0, vs0, d0, ds0, p0, q0, hargs, rfl, rfl, h0, rr0⟩ := trodAll_cons hA
  obtain ⟨v1, vs1, d1, ds1, p1, q1, rfl, rfl, rfl, h1, rr1⟩ := trodAll_cons rr0
  obtain ⟨rfl, rfl, rfl⟩ := trodAll_nil rr1
  obtain rfl : args = #[v0, v1] := by cases args; simp_all
  obtain ⟨rfl, rfl⟩ := trodVars_none hV
  have k0 := h0
  have lt0 : ∀ x ∈ p0, x.block < W.heap.size := by obtain ⟨m, hm⟩ := k0; exact DataW.trod_lt m _ _ _ hm
  obtain ⟨cs0, rfl, hc0⟩ := okWide_struct Try.underlying34 (hval 0 34 v0 rfl rfl)
  obtain ⟨a0, cap0, x0, u0, v0, r0, rfl, s0, b0, m0⟩ := Go.Proofs.Ytdmaeipiikknnab.OpnD.open_dec hc0 h0
  have k1 := h1
  have lt1 : ∀ x ∈ p1, x.block < W.heap.size := by obtain ⟨m, hm⟩ := k1; exact DataW.trod_lt m _ _ _ hm
  obtain ⟨cs1, rfl, hc1⟩ := okWide_struct Try.underlying34 (hval 1 34 v1 rfl rfl)
  obtain ⟨a1, cap1, x1, u1, v1, r1, rfl, s1, b1, m1⟩ := Go.Proofs.Ytdmaeipiikknnab.OpnD.open_dec hc1 h1
  clear hA0 hval0
  refine (walk a0 cap0 x0 u0 v0 r0 a1 cap1 x1 u1 v1 r1 W s0 b0 m0 s1 b1 m1).mono fun e W' ⟨he, bel⟩ => ?_
  subst he
  exact ⟨_, rfl, _, _, _, [], _, [], hW', trodAll_mk1 (shut_bool Try.underlying4 _), (trodAll_cons_mk (Below.trod laidOut (by kernel_rfl) (of_decide_eq_true (by kernel_rfl)) k0 bel lt0) (trodAll_cons_mk (Below.trod laidOut (by kernel_rfl) (of_decide_eq_true (by kernel_rfl)) k1 bel lt1) trodAll_mk0)), rfl, bel.frame _, fun h => by cases h⟩

theorem over : Rows.fnExactSameDecodersRow.holds Try.pinned (OpenSpec.ofChange Rows.fnExactSameDecodersSpec) :=
  OpenClaim.holds_of_wide 6 Try.f6 rfl rfl rfl rfl rfl rfl rfl ⟨rfl, rfl, rfl, rfl, rfl⟩ rfl rfl rfl rfl rfl (by kernel_rfl) Try.func6 (by kernel_rfl)
    (of_decide_eq_true (by kernel_rfl)) (by unfold Func.isWrapper; first | (rw [if_pos (by decide +kernel)]; kernel_rfl) | (rw [if_neg (by decide +kernel)]; exact ⟨rfl, rfl⟩))
    (fun os started H enc _ => lifted os started H enc)

theorem proved : Rows.FnExactSameDecodersSaid := over
#print axioms proved
end Go.Proofs.Ytdmaeipiikknnab.fnExactSameDecoders
