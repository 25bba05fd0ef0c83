/- The walk through the exact law of FrameBounds, for a program that answers by the common answers. Condition: the program's own contract, wherever nothing that was there before has turned. -/
import Derived.Test.YtbakmphopgkpmaaDoorExJ
import Derived.Test.YtbakmphopgkpmaaDoorBndF
namespace Go.Proofs.YtbakmphopgkpmaaDoor.ExFb
open Go.ChangeShapes Go.WideShapes Go.ChangeAt Go.RowKit Go.Proofs.YtbakmphopgkpmaaDoor.Num Go.Proofs.YtbakmphopgkpmaaDoor.Sli Go.Proofs.YtbakmphopgkpmaaDoor.App Go.Proofs.YtbakmphopgkpmaaDoor.Samp Go.Proofs.YtbakmphopgkpmaaDoor.HalM Go.Proofs.YtbakmphopgkpmaaDoor.LapM Go.Proofs.YtbakmphopgkpmaaDoor.LapN Go.Proofs.YtbakmphopgkpmaaDoor.BndM Go.Proofs.YtbakmphopgkpmaaDoor.BndF Go.Proofs.YtbakmphopgkpmaaDoor.ExJ
open Go.Proofs.YtbakmphopgkpmaaDoor.IntL (OwI toInt64S_calls markInt64S_calls eqIntsResult_calls markIntsResult_calls heldIntsResult_calls)
open Go.Proofs.YtbakmphopgkpmaaDoor.ToInt (eqInt64S_calls)
theorem frL_small (s : Int) (x y z : List Int) : (frL s x y z).length ≤ 1048576 := by
  by_cases h : frC s x y z = 0
  · rw [show frL s x y z = frB s x y z from if_pos h, frB_len]
    by_cases hz : szF s = 0
    · obtain ⟨_, e1, e2, e3, e4, e5⟩ := sz_nat hz; omega
    · unfold frC at h; rw [if_neg hz] at h; cases h
  · rw [show frL s x y z = [] from if_neg h]; decide
set_option maxRecDepth 100000 in
set_option maxHeartbeats 4000000 in
theorem exactFrameBounds_calls (s : Int) (a1 a2 a3 : Option Addr) (k1 k2 k3 : Nat) (x y z : List Int) (w : World) (h1 : Sl .i64 w (.slice a1 x.length k1) x) (h2 : Sl .i64 w (.slice a2 y.length k2) y) (h3 : Sl .i64 w (.slice a3 z.length k3) z)
    (HI0 : ∀ (v1 v2 v3 : Value) (l1 l2 l3 : List Int) (W : World), Below w.heap.size w W → Sl .i64 W v1 l1 → Sl .i64 W v2 l2 → Sl .i64 W v3 l3 → Fits v1 → Fits v2 → Fits v3 → l1.length ≤ 1048576 → l2.length ≤ 1048576 → l3.length ≤ 1048576 → Calls Tryd.prog 29 #[.int .i64 s, v1, v2, v3] W fun e w' => ∃ u, e = .returned (.agg #[.int .i64 (frC s l1 l2 l3), u]) ∧ OwI W.heap.size w' u (frL s l1 l2 l3) ∧ Below W.heap.size W w') :
    Calls Tryd.prog 8 #[.int .i64 s, .slice a1 x.length k1, .slice a2 y.length k2, .slice a3 z.length k3] w fun e w' => e = .returned (.bool true) ∧ Below w.heap.size w w' := by
  have HI := hid HI0
  have H1 := hid h1
  have H2 := hid h2
  have H3 := hid h3
  clear HI0 h1 h2 h3
  by_cases g1 : 1048576 < x.length
  · have hb' : (1048576 : Int) < x.length := by omega
    go_enter Tryd.func8, Tryd.ntmps8
    go_wp2
    go_ret
    exact ⟨rfl, Below.refl _ _⟩
  have f1 : (x.length : Int) ≤ 1048576 := by omega
  by_cases g2 : 1048576 < y.length
  · have hb' : (1048576 : Int) < y.length := by omega
    go_enter Tryd.func8, Tryd.ntmps8
    go_wp2
    go_ret
    exact ⟨rfl, Below.refl _ _⟩
  have f2 : (y.length : Int) ≤ 1048576 := by omega
  by_cases g3 : 1048576 < z.length
  · have hb' : (1048576 : Int) < z.length := by omega
    go_enter Tryd.func8, Tryd.ntmps8
    go_wp2
    go_ret
    exact ⟨rfl, Below.refl _ _⟩
  have f3 : (z.length : Int) ≤ 1048576 := by omega
  have hyl := frL_small s x y z
  have HB0 : Hid (Below w.heap.size w w) := Below.refl _ _
  go_enter Tryd.func8, Tryd.ntmps8
  go_wp2_with fail
  refine (toInt64S_calls _ x _ H1.out (by omega)).mono ?_
  rintro e wa ⟨ga, rfl, ho, hb⟩
  have P1 := hid ho.sl
  have HB1 := hid hb
  clear ho hb HB0
  go_wp2_with fail
  refine (toInt64S_calls _ y _ (H2.out.later HB1.out) (by omega)).mono ?_
  rintro e wb ⟨gb, rfl, ho, hb⟩
  have P2 := hid ho.sl
  have P1 := hid (P1.out.later hb)
  have HB2 := hid (bthen HB1.out hb)
  clear ho hb HB1
  go_wp2_with fail
  refine (toInt64S_calls _ z _ (H3.out.later HB2.out) (by omega)).mono ?_
  rintro e wc ⟨gc, rfl, ho, hb⟩
  have P3 := hid ho.sl
  have P1 := hid (P1.out.later hb)
  have P2 := hid (P2.out.later hb)
  have HB3 := hid (bthen HB2.out hb)
  clear ho hb HB2
  go_wp2_with fail
  refine (specFrameBounds_calls s _ _ _ x y z _ P1.out P2.out P3.out (by omega) (by omega) (by omega)).mono ?_
  rintro e w2 ⟨W, rfl, hoW, hb⟩
  have hW := hoW.sl
  have HW := hid hW
  have HB4 := hid (bthen HB3.out hb)
  obtain ⟨aW, cW, rfl, _⟩ := hW
  clear hoW hb HB3 P1 P2 P3
  go_wp2_with fail
  refine (toInt64S_calls _ x _ (H1.out.later (bmore HB4.out _)) (by omega)).mono ?_
  rintro e w3 ⟨g4, rfl, ho, hb⟩
  have HO := hid ho
  have HC := hid hb
  clear ho hb
  go_wp2_with fail
  refine (toInt64S_calls _ y _ (H2.out.later (bthen (bmore HB4.out _) HC.out)) (by omega)).mono ?_
  rintro e w4 ⟨g5, rfl, ho, hb⟩
  have HOx := hid (HO.out.later hb)
  have HOy := hid ho
  have HC2 := hid (bthen HC.out hb)
  have hz3 : w2.heap.size + 1 ≤ w3.heap.size := by have := HC.out.size; simpa using this
  have hz4 := hb.size
  have hg4 := (HO.out.block g4 rfl).2
  clear ho hb HO HC
  go_wp2_with fail
  refine (toInt64S_calls _ z _ (H3.out.later (bthen (bmore HB4.out _) HC2.out)) (by omega)).mono ?_
  rintro e w5 ⟨g6, rfl, ho, hb⟩
  have HPx := hid (HOx.out.later hb)
  have HPy := hid (HOy.out.later hb)
  have HPz := hid ho
  have HC3 := hid (bthen HC2.out hb)
  have hz5 := hb.size
  have hg5 := HOy.out.block g5 rfl
  clear ho hb HOx HOy HC2
  go_wp2_with fail
  refine (HI.out _ _ _ x y z _ (bthen (bmore HB4.out _) HC3.out) HPx.out.sl HPy.out.sl HPz.out.sl HPx.out.fits HPy.out.fits HPz.out.fits (by omega) (by omega) (by omega)).mono ?_
  rintro e w6 ⟨G, rfl, hoG, hb4⟩
  obtain ⟨hK, hxb, hox⟩ := ki_start HB4.out HW.out HC3.out HPx.out hb4 hoG (T := 35)
  have hox2 : OwI (w2.heap.size + 1) (w6.alloc (.cells #[.int .i64 (frC s x y z), G] 35)) (.slice (some ⟨g5, 0, none⟩) y.length y.length) y := App.Ow.mono ((HPy.out.later hb4).alloc _) (by omega)
  have hox3 : OwI (w2.heap.size + 1) (w6.alloc (.cells #[.int .i64 (frC s x y z), G] 35)) (.slice (some ⟨g6, 0, none⟩) z.length z.length) z := App.Ow.mono ((HPz.out.later hb4).alloc _) (by omega)
  have hxb2 : ∀ j, (Value.slice (some ⟨g5, 0, none⟩) y.length y.length).ownBlock = some j → w2.heap.size < j ∧ j < w5.heap.size := fun j e => by have := HPy.out.block j e; omega
  have hxb3 : ∀ j, (Value.slice (some ⟨g6, 0, none⟩) z.length z.length).ownBlock = some j → w2.heap.size < j ∧ j < w5.heap.size := fun j e => by have := HPz.out.block j e; omega
  have hn12 : g4 ≠ g5 := by omega
  have hn13 : g4 ≠ g6 := by have h2 := HPz.out.block g6 rfl; omega
  have hn23 : g5 ≠ g6 := by have h2 := HPz.out.block g6 rfl; omega
  have hG := hoG.sl
  obtain ⟨aG, cG, rfl, _⟩ := hG
  clear hb4 hoG HB4 HW HC3 HPx HPy HPz hz3 hz4 hz5 hg4 hg5
  generalize w2.heap.size = A at *
  generalize w5.heap.size = Bx at *
  have hp0 := hK.p0
  have hp1 := hK.p1
  have HK := hid hK
  have HX1 := hid hxb
  have HX2 := hid hxb2
  have HX3 := hid hxb3
  have O1 := hid hox
  have O2 := hid hox2
  have O3 := hid hox3
  clear hK hxb hox hxb2 hox2 hxb3 hox3
  go_wp2_with fail
  refine (eqIntsResult_calls _ _ _ _ _ HK.out.oG.sl HK.out.slW hyl).mono ?_
  rintro e w7 ⟨rfl, hb⟩
  have HK := hid (HK.out.later hb)
  have O1 := hid (O1.out.later hb)
  have O2 := hid (O2.out.later hb)
  have O3 := hid (O3.out.later hb)
  generalize w6.heap.size = q at *
  clear hb hp0 hp1
  go_wp2_with fail
  refine (toInt64S_calls _ x _ (H1.out.later HK.out.bel) (by omega)).mono ?_
  rintro e w8 ⟨h8, rfl, ho, hb⟩
  have HK := hid (HK.out.later hb)
  have O1 := hid (O1.out.later hb)
  have O2 := hid (O2.out.later hb)
  have O3 := hid (O3.out.later hb)
  have HO6 := hid ho
  clear ho hb
  go_wp2_with fail
  refine (eqInt64S_calls _ _ x _ O1.out.sl HO6.out.sl (by omega)).mono ?_
  rintro e w9 ⟨rfl, hb⟩
  have HK := hid (HK.out.later hb)
  have O1 := hid (O1.out.later hb)
  have O2 := hid (O2.out.later hb)
  have O3 := hid (O3.out.later hb)
  clear hb HO6
  go_wp2_with fail
  refine (toInt64S_calls _ y _ (H2.out.later HK.out.bel) (by omega)).mono ?_
  rintro e w10 ⟨h10, rfl, ho, hb⟩
  have HK := hid (HK.out.later hb)
  have O1 := hid (O1.out.later hb)
  have O2 := hid (O2.out.later hb)
  have O3 := hid (O3.out.later hb)
  have HO6 := hid ho
  clear ho hb
  go_wp2_with fail
  refine (eqInt64S_calls _ _ y _ O2.out.sl HO6.out.sl (by omega)).mono ?_
  rintro e w11 ⟨rfl, hb⟩
  have HK := hid (HK.out.later hb)
  have O1 := hid (O1.out.later hb)
  have O2 := hid (O2.out.later hb)
  have O3 := hid (O3.out.later hb)
  clear hb HO6
  go_wp2_with fail
  refine (toInt64S_calls _ z _ (H3.out.later HK.out.bel) (by omega)).mono ?_
  rintro e w12 ⟨h12, rfl, ho, hb⟩
  have HK := hid (HK.out.later hb)
  have O1 := hid (O1.out.later hb)
  have O2 := hid (O2.out.later hb)
  have O3 := hid (O3.out.later hb)
  have HO6 := hid ho
  clear ho hb
  go_wp2_with fail
  refine (eqInt64S_calls _ _ z _ O3.out.sl HO6.out.sl (by omega)).mono ?_
  rintro e w13 ⟨rfl, hb⟩
  have HK := hid (HK.out.later hb)
  have O1 := hid (O1.out.later hb)
  have O2 := hid (O2.out.later hb)
  have O3 := hid (O3.out.later hb)
  clear hb HO6
  go_wp2_with fail
  refine (markInt64S_calls _ _ x _ (1) O1.out (by omega) (by omega)).mono ?_
  rintro e w14 ⟨rfl, _, hg⟩
  have HK := hid (HK.out.mark hg HX1.out)
  have O2 := hid (IntA.Ow.keptNe O2.out hg (fun j e => by simp [Value.ownBlock] at e ⊢; omega))
  have O3 := hid (IntA.Ow.keptNe O3.out hg (fun j e => by simp [Value.ownBlock] at e ⊢; omega))
  clear hg O1 HX1
  go_wp2_with fail
  refine (markInt64S_calls _ _ y _ (1 + x.length) O2.out (by omega) (by omega)).mono ?_
  rintro e w15 ⟨rfl, _, hg⟩
  have HK := hid (HK.out.mark hg HX2.out)
  have O3 := hid (IntA.Ow.keptNe O3.out hg (fun j e => by simp [Value.ownBlock] at e ⊢; omega))
  clear hg O2 HX2
  go_wp2_with fail
  refine (markInt64S_calls _ _ z _ (1 + x.length + y.length) O3.out (by omega) (by omega)).mono ?_
  rintro e w16 ⟨rfl, _, hg⟩
  have HK := hid (HK.out.mark hg HX3.out)
  clear hg O3 HX3
  have hq0 := HK.out.q0
  have hq1 := HK.out.q1
  have hp0 := HK.out.p0
  have hp1 := HK.out.p1
  have hcast2 : (((1 + x.length + y.length + z.length : Nat) : Int)) = 1 + (x.length : Int) + (y.length : Int) + (z.length : Int) := by omega
  rw [hcast2]
  clear hcast2
  go_wp2_with fail
  refine (eqIntsResult_calls _ _ _ _ _ HK.out.oG.sl HK.out.slW hyl).mono ?_
  rintro e v1 ⟨rfl, hb⟩
  have HK := hid (HK.out.later hb)
  have hq0 := HK.out.q0
  have hq1 := HK.out.q1
  have hp0 := HK.out.p0
  have hp1 := HK.out.p1
  clear hb
  go_wp2_with fail
  refine (markIntsResult_calls _ _ _ _ _ 1 HK.out.oG hyl (by omega)).mono ?_
  rintro e v2 ⟨rfl, ho10, hg10⟩
  have HK := hid (HK.out.markG hg10 ho10)
  have hq0 := HK.out.q0
  have hq1 := HK.out.q1
  have hp0 := HK.out.p0
  have hp1 := HK.out.p1
  have hcast : (((1 + (frL s x y z).length : Nat) : Int)) = 1 + ((frL s x y z).length : Int) := by omega
  rw [hcast]
  have HC := hid hcast
  clear hcast hg10 ho10
  go_wp2_with fail
  refine (heldIntsResult_calls _ _ _ _ 1 HK.out.oG.sl hyl (by omega)).mono ?_
  rintro e v3 ⟨rfl, hb⟩
  have HK := hid (HK.out.later hb)
  have hq0 := HK.out.q0
  have hq1 := HK.out.q1
  have hp0 := HK.out.p0
  have hp1 := HK.out.p1
  rw [HC.out]
  clear hb
  go_wp2_with fail
  refine (toInt64S_calls _ x _ (H1.out.later HK.out.bel) (by omega)).mono ?_
  rintro e v4 ⟨j4, rfl, ho, hb⟩
  have HK := hid (HK.out.later hb)
  have P1 := hid ho
  clear ho hb hp0 hp1 hq0 hq1
  go_wp2_with fail
  refine (toInt64S_calls _ y _ (H2.out.later HK.out.bel) (by omega)).mono ?_
  rintro e v5 ⟨j5, rfl, ho, hb⟩
  have HK := hid (HK.out.later hb)
  have P1 := hid (P1.out.later hb)
  have P2 := hid ho
  clear ho hb
  go_wp2_with fail
  refine (toInt64S_calls _ z _ (H3.out.later HK.out.bel) (by omega)).mono ?_
  rintro e v6 ⟨j6, rfl, ho, hb⟩
  have HK := hid (HK.out.later hb)
  have P1 := hid (P1.out.later hb)
  have P2 := hid (P2.out.later hb)
  have P3 := hid ho
  clear ho hb
  go_wp2_with fail
  refine (HI.out _ _ _ x y z _ HK.out.bel P1.out.sl P2.out.sl P3.out.sl P1.out.fits P2.out.fits P3.out.fits (by omega) (by omega) (by omega)).mono ?_
  rintro e v7 ⟨V, rfl, hoV, hb⟩
  have hV := hoV.sl
  have HK1 := hid (HK.out.later hb)
  have HK2 := hid (HK1.out.later (bmore (Below.refl _ _) (.cells #[.int .i64 (frC s x y z), V] 35)))
  have HV := hid hV
  obtain ⟨aV, cV, rfl, _⟩ := hV
  have hp0 := HK1.out.p0
  have hp1 := HK1.out.p1
  have hpl : A < v7.heap.size := by have := HK1.out.l1; have := HK1.out.l2; have := HK1.out.l3; omega
  clear HK P1 P2 P3 hoV hb HI
  go_wp2_with fail
  refine (eqIntsResult_calls _ _ _ _ _ (HV.out.later (bmore (Below.refl _ _) _)) HK2.out.slW hyl).mono ?_
  rintro e v8 ⟨rfl, hb⟩
  have HK := hid (HK2.out.later hb)
  have hq0 := HK.out.q0
  have hq1 := HK.out.q1
  clear HK1 HK2 HV hb hp0 hp1 hpl
  go_wp2_with fail
  refine (heldIntsResult_calls _ _ _ _ 1 HK.out.oG.sl hyl (by omega)).mono ?_
  rintro e v9 ⟨rfl, hb⟩
  have HB := hid (bthen HK.out.bel hb)
  rw [HC.out]
  clear HK hb hq0 hq1
  go_wp2
  go_ret
  exact ⟨rfl, HB.out⟩
end Go.Proofs.YtbakmphopgkpmaaDoor.ExFb
