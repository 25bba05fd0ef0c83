/- The exact law of HalveList, for a program that answers by the common answers: the laws' helpers over answers with two lists, what is kept on the way, the walk. Condition: the program's own contract, wherever nothing that was there before has turned. -/
import Derived.Test.YtmpdkediffpjdaaDoorExBl
namespace Go.Proofs.YtmpdkediffpjdaaDoor.ExHv
open Go.ChangeShapes Go.WideShapes Go.ChangeAt Go.RowKit Go.Proofs.YtmpdkediffpjdaaDoor.Num Go.Proofs.YtmpdkediffpjdaaDoor.Sli Go.Proofs.YtmpdkediffpjdaaDoor.App Go.Proofs.YtmpdkediffpjdaaDoor.HalM Go.Proofs.YtmpdkediffpjdaaDoor.HalN Go.Proofs.YtmpdkediffpjdaaDoor.BloS
open Go.Proofs.YtmpdkediffpjdaaDoor.IntL (OwI marks marks_len toInt64S_calls markInt64S_calls heldInt64S_calls)
open Go.Proofs.YtmpdkediffpjdaaDoor.ToInt (eqInt64S_calls)

theorem eqHalves_calls (c : Int) (v1 v2 u1 u2 : Value) (xs ys : List Int) (w : World) (h1 : Sl .i64 w v1 xs) (h2 : Sl .i64 w v2 xs) (k1 : Sl .i64 w u1 ys) (k2 : Sl .i64 w u2 ys) (hlen : xs.length ≤ 1048576) (hlen2 : ys.length ≤ 1048576) :
    Calls Tryd.prog 24 #[.agg #[.int .i64 c, v1, u1], .agg #[.int .i64 c, v2, u2]] w fun e w' => e = .returned (.bool true) ∧ Below w.heap.size w w' := by
  have H1 := hid h1
  have H2 := hid h2
  have K1 := hid k1
  have K2 := hid k2
  obtain ⟨a1, cap1, rfl, _⟩ := h1
  obtain ⟨a2, cap2, rfl, _⟩ := h2
  obtain ⟨b1, bap1, rfl, _⟩ := k1
  obtain ⟨b2, bap2, rfl, _⟩ := k2
  have hb := bmore (bmore (Below.refl _ w) (.cells #[.int .i64 c, .slice a1 xs.length cap1, .slice b1 ys.length bap1] 30)) (.cells #[.int .i64 c, .slice a2 xs.length cap2, .slice b2 ys.length bap2] 30)
  have HB := hid hb
  clear hb
  go_enter Tryd.func24, Tryd.ntmps24
  go_wp2_with fail
  refine (eqInt64S_calls _ _ xs _ (H1.out.later HB.out) (H2.out.later HB.out) hlen).mono ?_
  rintro e w1 ⟨rfl, hb1⟩
  obtain ⟨q1, q2, _, _⟩ := Blk.boxes2 hb1
  obtain ⟨c0, c1, c2, _⟩ := q1.three
  obtain ⟨d0, d1, d2, _⟩ := q2.three
  have HB1 := hid (bthen HB.out hb1)
  clear hb1 q1 q2
  go_wp2_with fail
  refine (eqInt64S_calls _ _ ys _ (K1.out.later HB1.out) (K2.out.later HB1.out) hlen2).mono ?_
  rintro e w2 ⟨rfl, hb2⟩
  have HB2 := hid (bthen HB1.out hb2)
  clear hb2 HB1 c0 c1 c2 d0 d1 d2
  go_wp2
  go_ret
  exact ⟨rfl, HB2.out⟩
theorem grown_box {w w' : World} {o : Obj} {r : Option Nat} (h : (w.alloc o).grownBy w' r) : w.grownBy w' r :=
  ⟨h.os, h.tape, h.output, Nat.le_trans (by simp) h.size, fun j hj hne => by rw [h.block j (by simp; omega) hne, Below.heap_alloc _ _ j hj]⟩
theorem markHalves_calls (base : Nat) (c : Int) (v u : Value) (xs ys : List Int) (w : World) (k : Nat) (h : OwI base w v xs) (hu : OwI base w u ys) (hap : apart2 v u) (hlen : xs.length ≤ 1048576) (hlen2 : ys.length ≤ 1048576) (hk : k ≤ 1000000) :
    Calls Tryd.prog 27 #[.agg #[.int .i64 c, v, u], .int .i64 k] w fun e w' => e = .returned (.int .i64 ((k + xs.length + ys.length : Nat) : Int)) ∧ ∃ w1, w.grownBy w1 v.ownBlock ∧ OwI base w1 v (marks k xs.length) ∧ OwI base w1 u ys ∧ w1.grownBy w' u.ownBlock ∧ OwI base w' u (marks (k + xs.length) ys.length) ∧ OwI base w' v (marks k xs.length) := by
  have H := hid h
  have HU := hid hu
  have HA := hid hap
  obtain ⟨a, cap, rfl, _⟩ := h.sl
  obtain ⟨b, bap, rfl, _⟩ := hu.sl
  have HR := hid (Blk.Blk.new w #[.int .i64 c, .slice a xs.length cap, .slice b ys.length bap] 30)
  have hfar : Hid (∀ j, (Value.slice a xs.length cap).ownBlock = some j → j < w.heap.size) := fun j e => (h.block j e).2
  clear h hu hap
  go_enter Tryd.func27, Tryd.ntmps27
  go_wp2_with fail
  refine (markInt64S_calls base _ xs _ k (H.out.alloc _) hlen (by omega)).mono ?_
  rintro e w1 ⟨rfl, ho, hg⟩
  have hr1 := Blk.Blk.kept HR.out hg (fun e => by have := hfar.out _ e; omega)
  obtain ⟨_, _, c2, _⟩ := hr1.three
  have HU1 := hid (IntA.Ow.keptNe (HU.out.alloc (.cells #[.int .i64 c, .slice a xs.length cap, .slice b ys.length bap] 30)) hg (fun j e => HA.out j e))
  have HO := hid ho
  have HG := hid (grown_box hg)
  have hcast : (((k + xs.length : Nat) : Int)) = (k : Int) + (xs.length : Int) := by omega
  clear ho hg HU H hr1 HR hfar
  go_wp2_with fail
  refine (markInt64S_calls base _ ys _ (k + xs.length) HU1.out hlen2 (by omega)).mono ?_
  rintro e w2 ⟨rfl, ho2, hg2⟩
  have HO2 := hid ho2
  have HG2 := hid hg2
  have HV2 := hid (IntA.Ow.keptNe HO.out hg2 (fun j e e2 => HA.out j e2 e))
  clear ho2 hg2 c2 hcast
  go_wp2
  go_ret
  exact ⟨rfl, w1, HG.out, HO.out, HU1.out, HG2.out, HO2.out, HV2.out⟩
theorem heldHalves_calls (c : Int) (v u : Value) (n m : Nat) (w : World) (k : Nat) (h : Sl .i64 w v (marks k n)) (hu : Sl .i64 w u (marks (k + n) m)) (hlen : n ≤ 1048576) (hlen2 : m ≤ 1048576) (hk : k ≤ 1000000) :
    Calls Tryd.prog 28 #[.agg #[.int .i64 c, v, u], .int .i64 k] w fun e w' => e = .returned (.int .i64 ((k + n + m : Nat) : Int)) ∧ Below w.heap.size w w' := by
  have H := hid h
  have HU := hid hu
  obtain ⟨a, cap, rfl, _⟩ := h
  obtain ⟨b, bap, rfl, _⟩ := hu
  have HB := hid (bmore (Below.refl _ w) (.cells #[.int .i64 c, .slice a (marks k n).length cap, .slice b (marks (k + n) m).length bap] 30))
  go_enter Tryd.func28, Tryd.ntmps28
  go_wp2_with fail
  refine (heldInt64S_calls _ n _ k (H.out.later HB.out) hlen (by omega)).mono ?_
  rintro e w1 ⟨rfl, rfl⟩
  have hcast : (((k + n : Nat) : Int)) = (k : Int) + n := by omega
  have hpos : ¬ ((k : Int) + n < 0) := by omega
  rw [hcast]
  have HC := hid hcast
  clear hcast
  go_wp2_with fail
  rw [← HC.out]
  refine (heldInt64S_calls _ m _ (k + n) (HU.out.later HB.out) hlen2 (by omega)).mono ?_
  rintro e w2 ⟨rfl, rfl⟩
  have hcast2 : (((k + n + m : Nat) : Int)) = (k : Int) + n + m := by omega
  have hpos2 : ¬ ((k : Int) + n + m < 0) := by omega
  rw [hcast2]
  clear hcast2
  go_wp2
  go_ret
  exact ⟨rfl, HB.out⟩
/-- The model's answer lies in block A, and its lists W, X below A; the program's answer lies in block q, and its lists G, H between Bx and q. -/
structure KH (w : World) (A Bx q : Nat) (c : Int) (W X G H : Value) (zs1 zs2 ys1 ys2 : List Int) (v : World) : Prop where
  p0 : v.cell? ⟨A, 0, none⟩ = some (.int .i64 c)
  p1 : v.cell? ⟨A, 1, none⟩ = some W
  p2 : v.cell? ⟨A, 2, none⟩ = some X
  q0 : v.cell? ⟨q, 0, none⟩ = some (.int .i64 c)
  q1 : v.cell? ⟨q, 1, none⟩ = some G
  q2 : v.cell? ⟨q, 2, none⟩ = some H
  sW : Sb .i64 A v W zs1
  sX : Sb .i64 A v X zs2
  oG : OwI Bx v G ys1
  oH : OwI Bx v H ys2
  gq : ∀ j, G.ownBlock = some j → j < q
  hq : ∀ j, H.ownBlock = some j → j < q
  ap : apart2 G H
  l1 : A < Bx
  l2 : Bx ≤ q
  l3 : q < v.heap.size
  l0 : w.heap.size ≤ A
  bel : Below w.heap.size w v
section
variable {w : World} {A Bx q : Nat} {c : Int} {W X G H : Value} {zs1 zs2 ys1 ys2 ys' : List Int} {v v' : World}
theorem KH.later (h : KH w A Bx q c W X G H zs1 zs2 ys1 ys2 v) (hb : Below v.heap.size v v') : KH w A Bx q c W X G H zs1 zs2 ys1 ys2 v' := by
  have l1 := h.l1; have l2 := h.l2; have l3 := h.l3; have hs := hb.size
  have hA : ∀ o, v'.cell? ⟨A, o, none⟩ = v.cell? ⟨A, o, none⟩ := fun o => hb.cell (p := ⟨A, o, none⟩) (by show A < _; omega)
  have hq : ∀ o, v'.cell? ⟨q, o, none⟩ = v.cell? ⟨q, o, none⟩ := fun o => hb.cell (p := ⟨q, o, none⟩) l3
  exact ⟨(hA 0).trans h.p0, (hA 1).trans h.p1, (hA 2).trans h.p2, (hq 0).trans h.q0, (hq 1).trans h.q1, (hq 2).trans h.q2, h.sW.keep (hb.mono (by omega)), h.sX.keep (hb.mono (by omega)), h.oG.later hb, h.oH.later hb, h.gq, h.hq, h.ap, l1, l2, by omega, h.l0, bthen h.bel hb⟩
theorem KH.mark {row : Option Nat} (h : KH w A Bx q c W X G H zs1 zs2 ys1 ys2 v) (hg : v.grownBy v' row) (hr : ∀ j, row = some j → A < j ∧ j < Bx) : KH w A Bx q c W X G H zs1 zs2 ys1 ys2 v' := by
  have l1 := h.l1; have l2 := h.l2; have l3 := h.l3; have l0 := h.l0; have hs := hg.size
  have hA : Below (A + 1) v v' := below_of_grown hg (by omega) (fun j e => (hr j e).1)
  have hq : ∀ o, v'.cell? ⟨q, o, none⟩ = v.cell? ⟨q, o, none⟩ := fun o => hg.cell_far ⟨q, o, none⟩ l3 (fun e => by have := (hr q e.symm).2; omega)
  have hA' : ∀ o, v'.cell? ⟨A, o, none⟩ = v.cell? ⟨A, o, none⟩ := fun o => hA.cell (p := ⟨A, o, none⟩) (by simp)
  exact ⟨(hA' 0).trans h.p0, (hA' 1).trans h.p1, (hA' 2).trans h.p2, (hq 0).trans h.q0, (hq 1).trans h.q1, (hq 2).trans h.q2, h.sW.keep (hA.mono (by omega)), h.sX.keep (hA.mono (by omega)), h.oG.kept hg (fun j e => (hr j e).2), h.oH.kept hg (fun j e => (hr j e).2), h.gq, h.hq, h.ap, l1, l2, by omega, h.l0, h.bel.trans (below_of_grown hg (by omega) (fun j e => by have := (hr j e).1; omega))⟩
theorem KH.turn {ys1' ys2' : List Int} {row : Option Nat} (h : KH w A Bx q c W X G H zs1 zs2 ys1 ys2 v) (hg : v.grownBy v' row) (hr : ∀ j, row = some j → Bx ≤ j ∧ j < q) (o1 : OwI Bx v' G ys1') (o2 : OwI Bx v' H ys2') : KH w A Bx q c W X G H zs1 zs2 ys1' ys2' v' := by
  have l1 := h.l1; have l2 := h.l2; have l3 := h.l3; have l0 := h.l0; have hs := hg.size
  have hA : Below (A + 1) v v' := below_of_grown hg (by omega) (fun j e => by have := (hr j e).1; omega)
  have hq : ∀ o, v'.cell? ⟨q, o, none⟩ = v.cell? ⟨q, o, none⟩ := fun o => hg.cell_far ⟨q, o, none⟩ l3 (fun e => by have := (hr q e.symm).2; omega)
  have hA' : ∀ o, v'.cell? ⟨A, o, none⟩ = v.cell? ⟨A, o, none⟩ := fun o => hA.cell (p := ⟨A, o, none⟩) (by simp)
  exact ⟨(hA' 0).trans h.p0, (hA' 1).trans h.p1, (hA' 2).trans h.p2, (hq 0).trans h.q0, (hq 1).trans h.q1, (hq 2).trans h.q2, h.sW.keep (hA.mono (by omega)), h.sX.keep (hA.mono (by omega)), o1, o2, h.gq, h.hq, h.ap, l1, l2, by omega, h.l0, h.bel.trans (hA.mono (by omega))⟩
theorem KH.slW (h : KH w A Bx q c W X G H zs1 zs2 ys1 ys2 v) : Sl .i64 v W zs1 := h.sW.sl (by have := h.l1; have := h.l2; have := h.l3; omega)
theorem KH.slX (h : KH w A Bx q c W X G H zs1 zs2 ys1 ys2 v) : Sl .i64 v X zs2 := h.sX.sl (by have := h.l1; have := h.l2; have := h.l3; omega)
end
/-- How it begins. -/
theorem kh_start {w w2 w3 w4 : World} {c : Int} {W X G H x : Value} {zs1 zs2 ys1 ys2 xs : List Int} {T : TypeId} (hb2 : Below w.heap.size w w2) (hW : Sl .i64 w2 W zs1) (hX : Sl .i64 w2 X zs2)
    (hb3 : Below (w2.alloc (.cells #[.int .i64 c, W, X] T)).heap.size (w2.alloc (.cells #[.int .i64 c, W, X] T)) w3) (hx : OwI (w2.alloc (.cells #[.int .i64 c, W, X] T)).heap.size w3 x xs)
    (hb4 : Below w3.heap.size w3 w4) (hG : OwI w3.heap.size w4 G ys1) (hH : OwI w3.heap.size w4 H ys2) (hap : apart2 G H) :
    KH w w2.heap.size w3.heap.size w4.heap.size c W X G H zs1 zs2 ys1 ys2 (w4.alloc (.cells #[.int .i64 c, G, H] T)) ∧ (∀ j, x.ownBlock = some j → w2.heap.size < j ∧ j < w3.heap.size) ∧ OwI (w2.heap.size + 1) (w4.alloc (.cells #[.int .i64 c, G, H] T)) x xs := by
  have s2 := hb2.size
  have s3 : w2.heap.size + 1 ≤ w3.heap.size := by have := hb3.size; simpa using this
  have s4 := hb4.size
  have hb24 := bthen hb3 hb4
  have hb25 := bmore hb24 (.cells #[.int .i64 c, G, H] T)
  have hlow : Below w2.heap.size w2 (w4.alloc (.cells #[.int .i64 c, G, H] T)) := (bmore (Below.refl _ w2) (.cells #[.int .i64 c, W, X] T)).trans (hb25.mono (by simp))
  have hA : ∀ o, (w4.alloc (.cells #[.int .i64 c, G, H] T)).cell? ⟨w2.heap.size, o, none⟩ = (w2.alloc (.cells #[.int .i64 c, W, X] T)).cell? ⟨w2.heap.size, o, none⟩ := fun o => hb25.cell (p := ⟨w2.heap.size, o, none⟩) (by simp)
  refine ⟨⟨by rw [hA]; simp, by rw [hA]; simp, by rw [hA]; simp, by simp, by simp, by simp, (Sb.of hW).keep hlow, (Sb.of hX).keep hlow, hG.alloc _, hH.alloc _, fun j e => (hG.block j e).2, fun j e => (hH.block j e).2, hap, by omega, s4, by simp, s2, bthen (bmore hb2 _) hb25⟩, fun j e => ?_, ?_⟩
  · have := hx.block j e
    simp at this
    omega
  · have hx' : OwI (w2.heap.size + 1) w3 x xs := by simpa using hx
    exact (hx'.later hb4).alloc _

set_option maxHeartbeats 2000000 in
theorem exactHalveList_calls (a : Option Addr) (cap : Nat) (xs : List Int) (w : World) (hsl : Sl .i64 w (.slice a xs.length cap) xs)
    (HI0 : ∀ (v : Value) (l : List Int) (W : World), Below w.heap.size w W → Sl .i64 W v l → Fits v → l.length ≤ 1048576 → Calls Tryd.prog 13 #[v] W fun e w' => ∃ u t, e = .returned (.agg #[.int .i64 (hvC l), u, t]) ∧ OwI W.heap.size w' u (hvS l) ∧ OwI W.heap.size w' t (hvD l) ∧ apart2 u t ∧ Below W.heap.size W w') :
    Calls Tryd.prog 5 #[.slice a xs.length cap] w fun e w' => e = .returned (.bool true) ∧ Below w.heap.size w w' := by
  have HI := hid HI0
  clear HI0
  by_cases hbig : 1048576 < xs.length
  · have hb' : (1048576 : Int) < xs.length := by omega
    go_enter Tryd.func5, Tryd.ntmps5
    go_wp2
    go_ret
    exact ⟨rfl, Below.refl _ _⟩
  · have hb' : (xs.length : Int) ≤ 1048576 := by omega
    have hyl := hvS_small xs
    have hym := hvD_small xs
    have HSL := hid hsl
    clear hsl
    go_enter Tryd.func5, Tryd.ntmps5
    go_wp2_with fail
    refine (toInt64S_calls _ xs _ HSL.out (by omega)).mono ?_
    rintro e w1 ⟨g1, rfl, ho1, hb1⟩
    go_wp2_with fail
    refine (specHalveList_calls _ xs _ ho1.sl (by omega)).mono ?_
    rintro e w2 ⟨W, X, rfl, hoW, hoX, _, hb2⟩
    have hW := hoW.sl
    have hX := hoX.sl
    have hb02 := bthen hb1 hb2
    have HW := hid hW
    have HXX := hid hX
    have HB2 := hid hb02
    obtain ⟨aW, cW, rfl, _⟩ := hW
    obtain ⟨aX, cX, rfl, _⟩ := hX
    clear ho1 hb1 hb2 hoW hoX hb02
    go_wp2_with fail
    refine (toInt64S_calls _ xs _ (HSL.out.later (bmore HB2.out _)) (by omega)).mono ?_
    rintro e w3 ⟨g3, rfl, ho3, hb3⟩
    have HO3 := hid ho3
    have HB3 := hid hb3
    clear ho3 hb3
    go_wp2_with fail
    refine (HI.out _ xs _ (bthen (bmore HB2.out _) HB3.out) HO3.out.sl HO3.out.fits (by omega)).mono ?_
    rintro e w4 ⟨G, H, rfl, hoG, hoH, hap, hb4⟩
    obtain ⟨hK, hxb, hox⟩ := kh_start HB2.out HW.out HXX.out HB3.out HO3.out hb4 hoG hoH hap (T := 30)
    have hG := hoG.sl
    have hH := hoH.sl
    obtain ⟨aG, cG, rfl, _⟩ := hG
    obtain ⟨aH, cH, rfl, _⟩ := hH
    clear hb4 hoG hoH hap HB2 HW HXX HB3 HO3
    generalize w2.heap.size = A at *
    generalize w3.heap.size = Bx at *
    have hp0 := hK.p0
    have hp1 := hK.p1
    have hp2 := hK.p2
    have HK := hid hK
    have HX := hid hxb
    have HOX := hid hox
    clear hK hxb hox
    go_wp2_with fail
    refine (eqHalves_calls _ _ _ _ _ _ _ _ HK.out.oG.sl HK.out.slW HK.out.oH.sl HK.out.slX hyl hym).mono ?_
    rintro e w5 ⟨rfl, hb5⟩
    have HK5 := hid (HK.out.later hb5)
    have HOX5 := hid (HOX.out.later hb5)
    have hq0 := HK5.out.q0
    have hq1 := HK5.out.q1
    have hq2 := HK5.out.q2
    have hp0 := HK5.out.p0
    have hp1 := HK5.out.p1
    have hp2 := HK5.out.p2
    generalize w4.heap.size = q at *
    clear HK HOX hb5
    go_wp2_with fail
    refine (toInt64S_calls _ xs _ (HSL.out.later HK5.out.bel) (by omega)).mono ?_
    rintro e w6 ⟨g6, rfl, ho6, hb6⟩
    have HK6 := hid (HK5.out.later hb6)
    have HOX6 := hid (HOX5.out.later hb6)
    have HO6 := hid ho6
    clear HK5 HOX5 ho6 hb6 hp0 hp1 hp2 hq0 hq1 hq2
    go_wp2_with fail
    refine (eqInt64S_calls _ _ xs _ HOX6.out.sl HO6.out.sl (by omega)).mono ?_
    rintro e w7 ⟨rfl, hb7⟩
    have HK7 := hid (HK6.out.later hb7)
    have HOX7 := hid (HOX6.out.later hb7)
    clear HK6 HOX6 HO6 hb7
    go_wp2_with fail
    refine (markInt64S_calls _ _ xs _ 1 HOX7.out (by omega) (by omega)).mono ?_
    rintro e w8 ⟨rfl, _, hg8⟩
    have HK8 := hid (HK7.out.mark hg8 HX.out)
    have hq0 := HK8.out.q0
    have hq1 := HK8.out.q1
    have hq2 := HK8.out.q2
    have hp0 := HK8.out.p0
    have hp1 := HK8.out.p1
    have hp2 := HK8.out.p2
    have hcast : (((1 + xs.length : Nat) : Int)) = 1 + (xs.length : Int) := by omega
    rw [hcast]
    clear hcast HK7 HOX7 HX hg8
    go_wp2_with fail
    refine (eqHalves_calls _ _ _ _ _ _ _ _ HK8.out.oG.sl HK8.out.slW HK8.out.oH.sl HK8.out.slX hyl hym).mono ?_
    rintro e w9 ⟨rfl, hb9⟩
    have HK9 := hid (HK8.out.later hb9)
    have hq0 := HK9.out.q0
    have hq1 := HK9.out.q1
    have hq2 := HK9.out.q2
    have hp0 := HK9.out.p0
    have hp1 := HK9.out.p1
    have hp2 := HK9.out.p2
    clear HK8 hb9
    go_wp2_with fail
    refine (markHalves_calls _ _ _ _ _ _ _ 1 HK9.out.oG HK9.out.oH HK9.out.ap hyl hym (by omega)).mono ?_
    rintro e w10 ⟨rfl, w9', hg9, hv9, hu9, hg10, hu10, hv10⟩
    have HK10 := hid ((HK9.out.turn hg9 (fun j e => ⟨(HK9.out.oG.block j e).1, HK9.out.gq j e⟩) hv9 hu9).turn hg10 (fun j e => ⟨(hu9.block j e).1, HK9.out.hq j e⟩) hv10 hu10)
    have hq0 := HK10.out.q0
    have hq1 := HK10.out.q1
    have hq2 := HK10.out.q2
    have hp0 := HK10.out.p0
    have hp1 := HK10.out.p1
    have hp2 := HK10.out.p2
    have hcast : (((1 + (hvS xs).length + (hvD xs).length : Nat) : Int)) = 1 + ((hvS xs).length : Int) + ((hvD xs).length : Int) := by omega
    rw [hcast]
    have HC := hid hcast
    clear hcast HK9 hg9 hv9 hu9 hg10 hu10 hv10
    go_wp2_with fail
    refine (heldHalves_calls _ _ _ _ _ _ 1 HK10.out.oG.sl HK10.out.oH.sl hyl hym (by omega)).mono ?_
    rintro e w11 ⟨rfl, hb11⟩
    have HK11 := hid (HK10.out.later hb11)
    have hq0 := HK11.out.q0
    have hq1 := HK11.out.q1
    have hq2 := HK11.out.q2
    have hp0 := HK11.out.p0
    have hp1 := HK11.out.p1
    have hp2 := HK11.out.p2
    rw [HC.out]
    clear HK10 hb11
    go_wp2_with fail
    refine (toInt64S_calls _ xs _ (HSL.out.later HK11.out.bel) (by omega)).mono ?_
    rintro e w12 ⟨g12, rfl, ho12, hb12⟩
    have HK12 := hid (HK11.out.later hb12)
    have HO12 := hid ho12
    clear HK11 ho12 hb12 hp0 hp1 hp2 hq0 hq1 hq2
    go_wp2_with fail
    refine (HI.out _ xs _ HK12.out.bel HO12.out.sl HO12.out.fits (by omega)).mono ?_
    rintro e w13 ⟨V, U, rfl, hoV, hoU, _, hb13⟩
    have hV := hoV.sl
    have hU := hoU.sl
    have HK13 := hid (HK12.out.later hb13)
    have HK14 := hid (HK13.out.later (bmore (Below.refl _ _) (.cells #[.int .i64 (hvC xs), V, U] 30)))
    have HV := hid hV
    have HU := hid hU
    obtain ⟨aV, cV, rfl, _⟩ := hV
    obtain ⟨aU, cU, rfl, _⟩ := hU
    have hp0 := HK13.out.p0
    have hp1 := HK13.out.p1
    have hp2 := HK13.out.p2
    have hpl : A < w13.heap.size := by have := HK13.out.l1; have := HK13.out.l2; have := HK13.out.l3; omega
    clear HK12 HO12 hoV hoU hb13
    go_wp2_with fail
    refine (eqHalves_calls _ _ _ _ _ _ _ _ (HV.out.later (bmore (Below.refl _ _) _)) HK14.out.slW (HU.out.later (bmore (Below.refl _ _) _)) HK14.out.slX hyl hym).mono ?_
    rintro e w15 ⟨rfl, hb15⟩
    have HK15 := hid (HK14.out.later hb15)
    have hq0 := HK15.out.q0
    have hq1 := HK15.out.q1
    have hq2 := HK15.out.q2
    clear HK13 HK14 HV HU hb15 hp0 hp1 hp2 hpl
    go_wp2_with fail
    refine (heldHalves_calls _ _ _ _ _ _ 1 HK15.out.oG.sl HK15.out.oH.sl hyl hym (by omega)).mono ?_
    rintro e w16 ⟨rfl, hb16⟩
    have HB := hid (bthen HK15.out.bel hb16)
    rw [HC.out]
    clear HK15 hb16 hq0 hq1 hq2
    go_wp2
    go_ret
    exact ⟨rfl, HB.out⟩
end Go.Proofs.YtmpdkediffpjdaaDoor.ExHv
