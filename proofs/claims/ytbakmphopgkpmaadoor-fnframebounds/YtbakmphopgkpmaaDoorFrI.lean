/- FrameBounds of the program: what it returns at every argument of lists of at most 1048576 numbers. Condition: the table of turns. -/
import Derived.Test.YtbakmphopgkpmaaDoorLeI
import Derived.Test.YtbakmphopgkpmaaDoorFcI
namespace Go.Proofs.YtbakmphopgkpmaaDoor.FrI
open Go.ChangeShapes Go.WideShapes Go.ChangeAt Go.RowKit Go.Proofs.YtbakmphopgkpmaaDoor.Num Go.Proofs.YtbakmphopgkpmaaDoor.Sli Go.Proofs.YtbakmphopgkpmaaDoor.App Go.Proofs.YtbakmphopgkpmaaDoor.Samp Go.Proofs.YtbakmphopgkpmaaDoor.SampF Go.Proofs.YtbakmphopgkpmaaDoor.Blk Go.Proofs.YtbakmphopgkpmaaDoor.TurM Go.Proofs.YtbakmphopgkpmaaDoor.HalM Go.Proofs.YtbakmphopgkpmaaDoor.LapM Go.Proofs.YtbakmphopgkpmaaDoor.LapN Go.Proofs.YtbakmphopgkpmaaDoor.IntL Go.Proofs.YtbakmphopgkpmaaDoor.IntA Go.Proofs.YtbakmphopgkpmaaDoor.LapS Go.Proofs.YtbakmphopgkpmaaDoor.TurI Go.Proofs.YtbakmphopgkpmaaDoor.BndM Go.Proofs.YtbakmphopgkpmaaDoor.WayM Go.Proofs.YtbakmphopgkpmaaDoor.WayJ Go.Proofs.YtbakmphopgkpmaaDoor.BkI Go.Proofs.YtbakmphopgkpmaaDoor.LbI Go.Proofs.YtbakmphopgkpmaaDoor.LeI Go.Proofs.YtbakmphopgkpmaaDoor.FcI
open Go.Proofs.YtbakmphopgkpmaaDoor.BloS (grown_set2)

/-- One of three lists. -/
theorem ix0 (v1 v2 v3 : Value) (w : World) : (Instr.index 96 (.agg #[v1, v2, v3]) (.int .i64 0)).run Tryd.prog w = .ok v1 w := by kernel_rfl
theorem ix1 (v1 v2 v3 : Value) (w : World) : (Instr.index 96 (.agg #[v1, v2, v3]) (.int .i64 1)).run Tryd.prog w = .ok v2 w := by kernel_rfl
theorem ix2 (v1 v2 v3 : Value) (w : World) : (Instr.index 96 (.agg #[v1, v2, v3]) (.int .i64 2)).run Tryd.prog w = .ok v3 w := by kernel_rfl
/-- How many are asked first. -/
def blF (s : Int) (n1 n2 n3 : Nat) : Int := if szF s = 0 then (if (n1 : Int) = s ∧ (n2 : Int) = s ∧ (n3 : Int) = s then 0 else 2) else 3
set_option maxRecDepth 100000 in
set_option maxHeartbeats 2000000 in
theorem boundLists_calls (s : Int) (a1 a2 a3 : Option Addr) (n1 n2 n3 c1 c2 c3 : Nat) (w : World) :
    Calls Tryd.prog 79 #[.int .i64 s, .agg #[.slice a1 n1 c1, .slice a2 n2 c2, .slice a3 n3 c3]] w fun e w' => e = .returned (.int .i64 (blF s n1 n2 n3)) ∧ Below w.heap.size w w' := by
  have HS := hid (implSizeFault_calls s)
  have i0 := ix0 (.slice a1 n1 c1) (.slice a2 n2 c2) (.slice a3 n3 c3)
  have i1 := ix1 (.slice a1 n1 c1) (.slice a2 n2 c2) (.slice a3 n3 c3)
  have i2 := ix2 (.slice a1 n1 c1) (.slice a2 n2 c2) (.slice a3 n3 c3)
  rcases sz_03 s with hs | hs
  · have HE : Hid (blF s n1 n2 n3 = if (n1 : Int) = s ∧ (n2 : Int) = s ∧ (n3 : Int) = s then 0 else 2) := if_pos hs
    rw [hs] at HS
    rw [HE.out]
    clear HE hs
    have hb := Blk.new w #[.slice a1 n1 c1, .slice a2 n2 c2, .slice a3 n3 c3] 96
    obtain ⟨x0, x1, x2, _⟩ := hb.three
    cases b1 : ((n1 : Int) != s)
    · cases b2 : ((n2 : Int) != s)
      · cases b3 : ((n3 : Int) != s)
        · have HR : Hid ((if (n1 : Int) = s ∧ (n2 : Int) = s ∧ (n3 : Int) = s then (0 : Int) else 2) = 0) := if_pos ⟨by simpa using b1, by simpa using b2, by simpa using b3⟩
          rw [HR.out]
          clear HR
          go_enter Tryd.func79, Tryd.ntmps79
          go_wp2_with (go_at_call 83; refine (HS.out _).mono ?_; rintro e w' ⟨rfl, rfl⟩)
          go_loopw [14] (fun i wr => wr = w.alloc (.cells #[.slice a1 n1 c1, .slice a2 n2 c2, .slice a3 n3 c3] 96) ∧ (i = .int .i64 0 ∨ i = .int .i64 1 ∨ i = .int .i64 2 ∨ i = .int .i64 3)) (fun i _ => 3 - (intOf i).toNat)
          case atStart => exact ⟨rfl, .inl rfl⟩
          case round =>
            obtain ⟨rfl, rfl | rfl | rfl | rfl⟩ := hrel
            · go_wp2
              go_roundw
              case rel => exact ⟨trivial, .inr (.inl (by go_num))⟩
              case measure => simp [intOf]
            · go_wp2
              go_roundw
              case rel => exact ⟨trivial, .inr (.inr (.inl (by go_num)))⟩
              case measure => simp [intOf]
            · go_wp2
              go_roundw
              case rel => exact ⟨trivial, .inr (.inr (.inr (by go_num)))⟩
              case measure => simp [intOf]
            · go_wp2
              go_ret
              exact ⟨rfl, bmore (Below.refl _ _) _⟩
        · have HR : Hid ((if (n1 : Int) = s ∧ (n2 : Int) = s ∧ (n3 : Int) = s then (0 : Int) else 2) = 2) := if_neg (fun h => by simp at b3; exact b3 h.2.2)
          rw [HR.out]
          clear HR
          go_enter Tryd.func79, Tryd.ntmps79
          go_wp2_with (go_at_call 83; refine (HS.out _).mono ?_; rintro e w' ⟨rfl, rfl⟩)
          go_loopw [14] (fun i wr => wr = w.alloc (.cells #[.slice a1 n1 c1, .slice a2 n2 c2, .slice a3 n3 c3] 96) ∧ (i = .int .i64 0 ∨ i = .int .i64 1 ∨ i = .int .i64 2)) (fun i _ => 3 - (intOf i).toNat)
          case atStart => exact ⟨rfl, .inl rfl⟩
          case round =>
            obtain ⟨rfl, rfl | rfl | rfl⟩ := hrel
            · go_wp2
              go_roundw
              case rel => exact ⟨trivial, .inr (.inl (by go_num))⟩
              case measure => simp [intOf]
            · go_wp2
              go_roundw
              case rel => exact ⟨trivial, .inr (.inr (by go_num))⟩
              case measure => simp [intOf]
            · go_wp2
              go_ret
              exact ⟨rfl, bmore (Below.refl _ _) _⟩
      · have HR : Hid ((if (n1 : Int) = s ∧ (n2 : Int) = s ∧ (n3 : Int) = s then (0 : Int) else 2) = 2) := if_neg (fun h => by simp at b2; exact b2 h.2.1)
        rw [HR.out]
        clear HR
        go_enter Tryd.func79, Tryd.ntmps79
        go_wp2_with (go_at_call 83; refine (HS.out _).mono ?_; rintro e w' ⟨rfl, rfl⟩)
        go_loopw [14] (fun i wr => wr = w.alloc (.cells #[.slice a1 n1 c1, .slice a2 n2 c2, .slice a3 n3 c3] 96) ∧ (i = .int .i64 0 ∨ i = .int .i64 1)) (fun i _ => 3 - (intOf i).toNat)
        case atStart => exact ⟨rfl, .inl rfl⟩
        case round =>
          obtain ⟨rfl, rfl | rfl⟩ := hrel
          · go_wp2
            go_roundw
            case rel => exact ⟨trivial, .inr (by go_num)⟩
            case measure => simp [intOf]
          · go_wp2
            go_ret
            exact ⟨rfl, bmore (Below.refl _ _) _⟩
    · have HR : Hid ((if (n1 : Int) = s ∧ (n2 : Int) = s ∧ (n3 : Int) = s then (0 : Int) else 2) = 2) := if_neg (fun h => by simp at b1; exact b1 h.1)
      rw [HR.out]
      clear HR
      go_enter Tryd.func79, Tryd.ntmps79
      go_wp2_with (go_at_call 83; refine (HS.out _).mono ?_; rintro e w' ⟨rfl, rfl⟩)
      go_loopw [14] (fun i wr => wr = w.alloc (.cells #[.slice a1 n1 c1, .slice a2 n2 c2, .slice a3 n3 c3] 96) ∧ i = .int .i64 0) (fun i _ => 3 - (intOf i).toNat)
      case atStart => exact ⟨rfl, rfl⟩
      case round =>
        obtain ⟨rfl, rfl⟩ := hrel
        go_wp2
        go_ret
        exact ⟨rfl, bmore (Below.refl _ _) _⟩
  · have HE : Hid (blF s n1 n2 n3 = 3) := if_neg (by rw [hs]; decide)
    rw [hs] at HS
    rw [HE.out]
    clear HE hs i0 i1 i2
    go_enter Tryd.func79, Tryd.ntmps79
    go_wp2_with (go_at_call 83; refine (HS.out _).mono ?_; rintro e w' ⟨rfl, rfl⟩)
    go_ret
    exact ⟨rfl, bmore (Below.refl _ _) _⟩
/-- The boxes of frameBounds: the blocks' and the way's. -/
structure FB (w : World) (L : Array Value) (sg yb : Nat) (u1 u2 u3 : Value) (X Y Z : List Int) (W : World) : Prop where
  l : Blk W w.heap.size L 96
  y : Blk W yb (#[.slice (some ⟨sg, 0, none⟩) 3 3, .func (.func (fP true)) #[] #[]]) 77
  s : Blk W sg (stepsV true) 115
  h1 : Sl .i64 W u1 X
  h2 : Sl .i64 W u2 Y
  h3 : Sl .i64 W u3 Z
  t : Tab W
  b : Below w.heap.size w W
theorem FB.later {w W W' : World} {L : Array Value} {sg yb : Nat} {u1 u2 u3 : Value} {X Y Z : List Int} (h : FB w L sg yb u1 u2 u3 X Y Z W) (hb : Below W.heap.size W W') : FB w L sg yb u1 u2 u3 X Y Z W' :=
  ⟨h.l.later hb, h.y.later hb, h.s.later hb, h.h1.later hb, h.h2.later hb, h.h3.later hb, h.t.later hb, bthen h.b hb⟩
theorem FB.way {w W : World} {L : Array Value} {sg yb : Nat} {u1 u2 u3 : Value} {X Y Z : List Int} (h : FB w L sg yb u1 u2 u3 X Y Z W) : WayV true W (wayV true sg) := ⟨sg, rfl, h.s⟩
set_option maxRecDepth 100000 in
set_option maxHeartbeats 4000000 in
theorem frameBounds_calls (s : Int) (u1 u2 u3 : Value) (X Y Z : List Int) (w : World) (hz : szF s = 0) (h1 : Sl .i64 w u1 X) (h2 : Sl .i64 w u2 Y) (h3 : Sl .i64 w u3 Z) (f1 : Fits u1) (f2 : Fits u2) (f3 : Fits u3)
    (l1 : X.length = s.toNat) (l2 : Y.length = s.toNat) (l3 : Z.length = s.toNat) (b1 : wlim true 137438953472 X) (b2 : wlim true 137438953472 Y) (b3 : wlim true 137438953472 Z) (hT : Tab w) :
    Calls Tryd.prog 80 #[.int .i64 s, .agg #[u1, u2, u3]] w fun e w' => ∃ gk ck : Nat, e = .returned (.slice (some ⟨gk, 0, none⟩) s.toNat ck) ∧ OwI w.heap.size w' (.slice (some ⟨gk, 0, none⟩) s.toNat ck) (smB (tbF s.toNat) (hN s) (X.drop (hN s)) (Y.take (hN s)) ++ smA (tbF s.toNat) (hN s) (Y.drop (hN s)) (Z.take (hN s))) ∧ Below w.heap.size w w' := by
  have hk : has true := by first | trivial | rfl
  obtain ⟨-, e1, e2, e3, e4, e5⟩ := sz_nat hz
  have lx1 : (X.take (hN s)).length = hN s := by rw [List.length_take]; omega
  have lx2 : (X.drop (hN s)).length = hN s := by rw [List.length_drop]; omega
  have ly2 : (Y.drop (hN s)).length = hN s := by rw [List.length_drop]; omega
  have HP1 := hid (fun W wv v1 v2 v3 (q1 : Sl .i64 W v1 (X.take (hN s))) (q2 : Sl .i64 W v2 (X.drop (hN s))) (q3 : Sl .i64 W v3 Y) (q4 : Fits v3) (ht : Tab W) (hw : WayV true W wv) => played_calls true hk wv s v1 v2 v3 _ _ Y W hz q1 q2 q3 q4 lx1 lx2 l2 (wlim_drop b1 _) b2 ht hw)
  have HP2 := hid (fun W wv v1 v2 v3 (q1 : Sl .i64 W v1 (smB (tbF s.toNat) (hN s) (X.drop (hN s)) (Y.take (hN s)))) (q2 : Sl .i64 W v2 (Y.drop (hN s))) (q3 : Sl .i64 W v3 Z) (q4 : Fits v3) (ht : Tab W) (hw : WayV true W wv) => played_calls true hk wv s v1 v2 v3 _ _ Z W hz q1 q2 q3 q4 (smB_len _ _ _ _) ly2 l3 (wlim_drop b2 _) b3 ht hw)
  rw [wF_yes] at HP1 HP2
  have HBB := hid boundsBack_calls
  have hX : X ≠ [] := by intro e; rw [e] at l1; simp at l1; omega
  have hsf := fun (a : Addr) (n : FuncId) (w : World) => run_store Tryd.prog w a (.func (.func n) #[] #[]) .plain rfl
  have F2 := hid f2
  have F3 := hid f3
  have H1 := hid h1
  have H2 := hid h2
  have H3 := hid h3
  have HT := hid hT
  obtain ⟨a1, c1, rfl, hc1⟩ := id h1
  obtain ⟨o1, p1, rfl, -, -⟩ := hc1 hX
  obtain ⟨a2, c2, rfl, -⟩ := id h2
  obtain ⟨a3, c3, rfl, -⟩ := id h3
  have hcap : X.length ≤ c1 := f1
  rw [l1, l2, l3]
  rw [l1] at H1 hcap
  rw [l2] at H2 F2
  rw [l3] at H3 F3
  have HPa := hid (fun W => parts_calls s o1 p1 s.toNat c1 W hz e2 hcap)
  have Ht1 := hid (fun W (q : Sl .i64 W (.slice (some ⟨o1, p1, none⟩) s.toNat c1) X) => sl_take q (show hN s ≤ s.toNat by omega) (by omega))
  have Ht2 := hid (fun W (q : Sl .i64 W (.slice (some ⟨o1, p1, none⟩) s.toNat c1) X) => sl_drop (c2 := c1 - hN s) q (show hN s < s.toNat by omega))
  rw [show s.toNat - hN s = hN s by omega] at Ht2
  clear h1 h2 h3 f1 f2 f3 l1 l2 l3 b1 b2 b3 hT hc1 hcap hz lx1 lx2 ly2 hX e1 e2 e3 e4 e5 hk
  generalize smB (tbF s.toNat) (hN s) (X.drop (hN s)) (Y.take (hN s)) = R1 at *
  generalize smA (tbF s.toNat) (hN s) (Y.drop (hN s)) (Z.take (hN s)) = R2 at *
  generalize X.take (hN s) = XT at *
  generalize X.drop (hN s) = XD at *
  generalize Y.drop (hN s) = YD at *
  generalize s.toNat = n at *
  generalize hN s = m at *
  go_enter Tryd.func80, Tryd.ntmps80
  go_wp2_with fail
  refine (HBB.out _).mono ?_
  rintro e w1 ⟨wv, rfl, ⟨sg, rfl, hs1⟩, hb1⟩
  have hB0 := bmore (Below.refl _ w) (.cells #[.slice (some ⟨o1, p1, none⟩) n c1, .slice a2 n c2, .slice a3 n c3] 96)
  have hbb := bmore hb1 (.cells #[.slice (some ⟨sg, 0, none⟩) 3 3, .func (.func (fP true)) #[] #[]] 77)
  have HK : Hid (FB w #[.slice (some ⟨o1, p1, none⟩) n c1, .slice a2 n c2, .slice a3 n c3] sg w1.heap.size (.slice (some ⟨o1, p1, none⟩) n c1) (.slice a2 n c2) (.slice a3 n c3) X Y Z (w1.alloc (.cells #[.slice (some ⟨sg, 0, none⟩) 3 3, .func (.func (fP true)) #[] #[]] 77))) :=
    ⟨(Blk.new w _ _).later hbb, Blk.new w1 _ _, hs1.alloc _, (H1.out.later hB0).later hbb, (H2.out.later hB0).later hbb, (H3.out.later hB0).later hbb, (HT.out.later hB0).later hbb, bthen hB0 hbb⟩
  clear hB0 hbb hb1 hs1 H1 H2 H3 HT HBB
  unfold wayV
  have hw1s : w1.heap.size < (w1.alloc (.cells #[.slice (some ⟨sg, 0, none⟩) 3 3, .func (.func (fP true)) #[] #[]] 77)).heap.size := by rw [World.size_alloc]; omega
  obtain ⟨x0, x1, x2, _⟩ := HK.out.l.three
  go_wp2_with fail
  generalize w1.heap.size = yb at *
  generalize w1.alloc (.cells #[.slice (some ⟨sg, 0, none⟩) 3 3, .func (.func (fP true)) #[] #[]] 77) = w2 at *
  refine (HPa.out _).mono ?_
  rintro e w3 ⟨rfl, hb3⟩
  have HK3 := hid (HK.out.later hb3)
  clear HK hb3 x0 x1 x2 hw1s HPa
  obtain ⟨x0, x1, x2, _⟩ := HK3.out.l.three
  obtain ⟨y0, y1, _, _⟩ := HK3.out.y.two
  go_wp2_with fail
  refine (HP1.out _ (wayV true sg) _ _ _ (Ht1.out _ HK3.out.h1) (Ht2.out _ HK3.out.h1) HK3.out.h2 F2.out HK3.out.t HK3.out.way).mono ?_
  rintro e w4 ⟨gb, cb, gd, cd, gk, ck, rfl, ht4, -, hb4, -⟩
  have hbb := bmore hb4 (.cells #[.int .i64 s, .slice (some ⟨gb, 0, none⟩) m cb, .slice (some ⟨gd, 0, none⟩) m cd] 102)
  have HK4 := hid (HK3.out.later hbb)
  have HA4 := hid (ht4.s.sl.later (bmore (Below.refl _ _) (.cells #[.int .i64 s, .slice (some ⟨gb, 0, none⟩) m cb, .slice (some ⟨gd, 0, none⟩) m cd] 102)))
  have HD4 := hid (ht4.d.sl.later (bmore (Below.refl _ _) (.cells #[.int .i64 s, .slice (some ⟨gb, 0, none⟩) m cb, .slice (some ⟨gd, 0, none⟩) m cd] 102)))
  have HS4 := hid (Blk.new w4 #[.int .i64 s, .slice (some ⟨gb, 0, none⟩) m cb, .slice (some ⟨gd, 0, none⟩) m cd] 102)
  clear ht4 hb4 hbb HK3 x0 x1 x2 y0 y1 HP1 Ht1 Ht2
  obtain ⟨x0, x1, x2, _⟩ := HK4.out.l.three
  obtain ⟨y0, y1, _, _⟩ := HK4.out.y.two
  go_wp2_with fail
  refine (HP2.out _ (wayV true sg) _ _ _ HA4.out HD4.out HK4.out.h3 F3.out HK4.out.t HK4.out.way).mono ?_
  rintro e w5 ⟨gb', cb', gd', cd', gk', ck', rfl, -, hk5, hb5, -⟩
  have hz4 := HK4.out.b.size
  have HO := hid (hk5.mono hz4)
  have HB := hid (bthen HK4.out.b hb5)
  have hbq := bmore (Below.refl _ w5) (.cells #[.int .i64 s, .slice (some ⟨gb', 0, none⟩) m cb', .slice (some ⟨gd', 0, none⟩) m cd'] 102)
  have HO5 := hid (HO.out.later hbq)
  have HB5 := hid (bthen HB.out hbq)
  clear hk5 hb5 hbq HK4 HA4 HD4 HS4 HO HB x0 x1 x2 y0 y1 HP2
  go_wp2
  go_ret
  exact ⟨_, _, rfl, HO5.out, HB5.out⟩
theorem gx_ok {s : Int} {x : List Int} (hz : szF s = 0) (hl : (x.length : Int) = s) (hg : gbdC x = 0) : gbdL x = gaB (dep s.toNat) x ∧ (gaB (dep s.toNat) x).length = s.toNat ∧ wlim true 137438953472 (gaB (dep s.toNat) x) := by
  have e : s.toNat = x.length := by omega
  obtain ⟨d1, d2⟩ := dep_of hz
  have hl2 : x.length = 2 ^ dep s.toNat := by rw [← e]; exact d1
  have hB : bG (dep s.toNat) 67108864 ≤ 34359738368 := by rcases is3_sz (sz_nat hz).1 with e | e | e | e <;> rw [e] <;> decide
  refine ⟨?_, by rw [gaB_len _ _ hl2]; omega, ?_⟩
  · rw [e]; exact if_pos hg
  · have := wlim_ga (k := true) (dep s.toNat) d2 hl2 (gbd_ok hg).2
    rw [wga_yes] at this
    exact this.mono (by omega)
/-- What the rounds keep: the answer's box, the blocks' box. -/
structure FR (w : World) (B : Nat) (bx : Array Value) (W : World) : Prop where
  r : Blk W w.heap.size #[.int .i64 0, .slice none 0 0] 35
  q : Blk W B bx 96
  b : Below w.heap.size w W
  lt : w.heap.size < B
theorem FR.later {w W W' : World} {B : Nat} {bx : Array Value} (h : FR w B bx W) (hb : Below W.heap.size W W') : FR w B bx W' := ⟨h.r.later hb, h.q.later hb, bthen h.b hb, h.lt⟩
theorem FR.set {w W : World} {B : Nat} {bx : Array Value} (h : FR w B bx W) (i : Nat) (v : Value) : FR w B (bx.setIfInBounds i v) (W.setCell ⟨B, i, none⟩ v) :=
  ⟨h.r.other (by have := h.lt; omega) i v, h.q.set i v, below_cell h.b (Nat.le_of_lt h.lt) i v, h.lt⟩
set_option maxRecDepth 100000 in
set_option maxHeartbeats 8000000 in
theorem implFrameBounds_calls (s : Int) (v1 v2 v3 : Value) (x y z : List Int) (w : World) (h1 : Sl .i64 w v1 x) (h2 : Sl .i64 w v2 y) (h3 : Sl .i64 w v3 z) (m1 : x.length ≤ 1048576) (m2 : y.length ≤ 1048576) (m3 : z.length ≤ 1048576) (hT : Tab w) :
    Calls Tryd.prog 29 #[.int .i64 s, v1, v2, v3] w fun e w' => ∃ u, e = .returned (.agg #[.int .i64 (frC s x y z), u]) ∧ OwI w.heap.size w' u (frL s x y z) ∧ Below w.heap.size w w' := by
  have HN : Hid (∀ (W : World) (c : Int), frC s x y z = c → c ≠ 0 → Below w.heap.size w W → ∃ u, Ending.returned (.agg #[.int .i64 c, .slice none 0 0]) = .returned (.agg #[.int .i64 (frC s x y z), u]) ∧ OwI w.heap.size W u (frL s x y z) ∧ Below w.heap.size w W) :=
    fun W c h1 h2 h4 => ⟨_, by rw [h1], by rw [show frL s x y z = [] from if_neg (by rw [h1]; exact h2)]; exact ow_nil _ _, h4⟩
  have HL := hid (fun (a1 a2 a3 : Option Addr) (c1 c2 c3 : Nat) W => boundLists_calls s a1 a2 a3 x.length y.length z.length c1 c2 c3 W)
  have hbx := boxes2 (w := w) (A := #[.int .i64 0, .slice none 0 0]) (B := #[v1, v2, v3]) (t := 35) (u := 96) (Below.refl _ _)
  have H1 := hid h1
  have H2 := hid h2
  have H3 := hid h3
  have HT := hid hT
  obtain ⟨a1, k1, rfl, -⟩ := id h1
  obtain ⟨a2, k2, rfl, -⟩ := id h2
  obtain ⟨a3, k3, rfl, -⟩ := id h3
  have HBx := hid hbx
  by_cases hb : blF s x.length y.length z.length = 0
  · have hz : szF s = 0 := by
      rcases sz_03 s with h | h
      · exact h
      · exfalso; unfold blF at hb; rw [if_neg (by rw [h]; decide)] at hb; cases hb
    have hl : (x.length : Int) = s ∧ (y.length : Int) = s ∧ (z.length : Int) = s := by
      unfold blF at hb
      rw [if_pos hz] at hb
      split at hb
      · assumption
      · cases hb
    have HF : Hid (frC s x y z = if gbdC x = 0 then (if gbdC y = 0 then gbdC z else gbdC y) else gbdC x) := by show _ = _; unfold frC; rw [if_pos hz, if_pos hl]
    rw [hb] at HL
    have HFr := hid (fun (g1 : gbdC x = 0) (g2 : gbdC y = 0) (g3 : gbdC z = 0) W u1 u2 u3 (q1 : Sl .i64 W u1 (gaB (dep s.toNat) x)) (q2 : Sl .i64 W u2 (gaB (dep s.toNat) y)) (q3 : Sl .i64 W u3 (gaB (dep s.toNat) z)) f1 f2 f3 (ht : Tab W) =>
      frameBounds_calls s u1 u2 u3 _ _ _ W hz q1 q2 q3 f1 f2 f3 (gx_ok hz hl.1 g1).2.1 (gx_ok hz hl.2.1 g2).2.1 (gx_ok hz hl.2.2 g3).2.1 (gx_ok hz hl.1 g1).2.2 (gx_ok hz hl.2.1 g2).2.2 (gx_ok hz hl.2.2 g3).2.2 ht)
    have HG1 : Hid (gbdC x = 0 → ∀ W, Sl .i64 W (.slice a1 x.length k1) x → Tab W → Calls Tryd.prog 22 #[.slice a1 x.length k1] W fun e w' => ∃ (p : Option Addr) (d : Nat), e = .returned (.agg #[.int .i64 0, .slice p s.toNat d]) ∧ OwI W.heap.size w' (.slice p s.toNat d) (gaB (dep s.toNat) x) ∧ Below W.heap.size W w') := by
      intro hg W q t
      obtain ⟨g1, g2, _⟩ := gx_ok hz hl.1 hg
      refine (implGatherBounds_calls _ x W q m1 t).mono ?_
      rintro e w' ⟨u, rfl, ho, hb⟩
      rw [hg, g1] at *
      obtain ⟨p, d, e', _⟩ := ho.sl
      rw [g2] at e'
      subst e'
      exact ⟨p, d, rfl, ho, hb⟩
    have HB1 : Hid (gbdC x ≠ 0 → ∀ W, Sl .i64 W (.slice a1 x.length k1) x → Tab W → Calls Tryd.prog 22 #[.slice a1 x.length k1] W fun e w' => ∃ (p : Option Addr) (n d : Nat), e = .returned (.agg #[.int .i64 (gbdC x), .slice p n d]) ∧ Below W.heap.size W w') := by
      intro hg W q t
      refine (implGatherBounds_calls _ x W q m1 t).mono ?_
      rintro e w' ⟨u, rfl, ho, hb⟩
      obtain ⟨p, d, e', _⟩ := ho.sl
      subst e'
      exact ⟨p, _, d, rfl, hb⟩
    have HG2 : Hid (gbdC y = 0 → ∀ W, Sl .i64 W (.slice a2 y.length k2) y → Tab W → Calls Tryd.prog 22 #[.slice a2 y.length k2] W fun e w' => ∃ (p : Option Addr) (d : Nat), e = .returned (.agg #[.int .i64 0, .slice p s.toNat d]) ∧ OwI W.heap.size w' (.slice p s.toNat d) (gaB (dep s.toNat) y) ∧ Below W.heap.size W w') := by
      intro hg W q t
      obtain ⟨g1, g2, _⟩ := gx_ok hz hl.2.1 hg
      refine (implGatherBounds_calls _ y W q m2 t).mono ?_
      rintro e w' ⟨u, rfl, ho, hb⟩
      rw [hg, g1] at *
      obtain ⟨p, d, e', _⟩ := ho.sl
      rw [g2] at e'
      subst e'
      exact ⟨p, d, rfl, ho, hb⟩
    have HB2 : Hid (gbdC y ≠ 0 → ∀ W, Sl .i64 W (.slice a2 y.length k2) y → Tab W → Calls Tryd.prog 22 #[.slice a2 y.length k2] W fun e w' => ∃ (p : Option Addr) (n d : Nat), e = .returned (.agg #[.int .i64 (gbdC y), .slice p n d]) ∧ Below W.heap.size W w') := by
      intro hg W q t
      refine (implGatherBounds_calls _ y W q m2 t).mono ?_
      rintro e w' ⟨u, rfl, ho, hb⟩
      obtain ⟨p, d, e', _⟩ := ho.sl
      subst e'
      exact ⟨p, _, d, rfl, hb⟩
    have HG3 : Hid (gbdC z = 0 → ∀ W, Sl .i64 W (.slice a3 z.length k3) z → Tab W → Calls Tryd.prog 22 #[.slice a3 z.length k3] W fun e w' => ∃ (p : Option Addr) (d : Nat), e = .returned (.agg #[.int .i64 0, .slice p s.toNat d]) ∧ OwI W.heap.size w' (.slice p s.toNat d) (gaB (dep s.toNat) z) ∧ Below W.heap.size W w') := by
      intro hg W q t
      obtain ⟨g1, g2, _⟩ := gx_ok hz hl.2.2 hg
      refine (implGatherBounds_calls _ z W q m3 t).mono ?_
      rintro e w' ⟨u, rfl, ho, hb⟩
      rw [hg, g1] at *
      obtain ⟨p, d, e', _⟩ := ho.sl
      rw [g2] at e'
      subst e'
      exact ⟨p, d, rfl, ho, hb⟩
    have HB3 : Hid (gbdC z ≠ 0 → ∀ W, Sl .i64 W (.slice a3 z.length k3) z → Tab W → Calls Tryd.prog 22 #[.slice a3 z.length k3] W fun e w' => ∃ (p : Option Addr) (n d : Nat), e = .returned (.agg #[.int .i64 (gbdC z), .slice p n d]) ∧ Below W.heap.size W w') := by
      intro hg W q t
      refine (implGatherBounds_calls _ z W q m3 t).mono ?_
      rintro e w' ⟨u, rfl, ho, hb⟩
      obtain ⟨p, d, e', _⟩ := ho.sl
      subst e'
      exact ⟨p, _, d, rfl, hb⟩
    have HFB : Hid (gbdC x = 0 → gbdC y = 0 → gbdC z = 0 → frC s x y z = 0 ∧ frL s x y z = smB (tbF s.toNat) (hN s) ((gaB (dep s.toNat) x).drop (hN s)) ((gaB (dep s.toNat) y).take (hN s)) ++ smA (tbF s.toNat) (hN s) ((gaB (dep s.toNat) y).drop (hN s)) ((gaB (dep s.toNat) z).take (hN s))) := by
      intro g1 g2 g3
      have hc : frC s x y z = 0 := by rw [HF.out, if_pos g1, if_pos g2]; exact g3
      exact ⟨hc, if_pos hc⟩
    have i0 := ix0 (.slice a1 x.length k1) (.slice a2 y.length k2) (.slice a3 z.length k3)
    have i1 := ix1 (.slice a1 x.length k1) (.slice a2 y.length k2) (.slice a3 z.length k3)
    have i2 := ix2 (.slice a1 x.length k1) (.slice a2 y.length k2) (.slice a3 z.length k3)
    clear hb hz hl h1 h2 h3 hT m1 m2 m3 hbx
    generalize smB (tbF s.toNat) (hN s) ((gaB (dep s.toNat) x).drop (hN s)) ((gaB (dep s.toNat) y).take (hN s)) ++ smA (tbF s.toNat) (hN s) ((gaB (dep s.toNat) y).drop (hN s)) ((gaB (dep s.toNat) z).take (hN s)) = RR at *
    generalize gaB (dep s.toNat) x = X at *
    generalize gaB (dep s.toNat) y = Y at *
    generalize gaB (dep s.toNat) z = Z at *
    generalize s.toNat = n at *
    go_enter Tryd.func29, Tryd.ntmps29
    obtain ⟨x0, x1, x2, _⟩ := HBx.out.2.1.three
    go_wp2_with fail
    refine (HL.out _ _ _ _ _ _ _).mono ?_
    rintro e w1 ⟨rfl, hb1⟩
    obtain ⟨hr1, hl1, hB1, hz1⟩ := boxes2 hb1
    have HK0 : Hid (FR w w1.heap.size #[.slice none 0 0, .slice none 0 0, .slice none 0 0] (w1.alloc (.cells #[.slice none 0 0, .slice none 0 0, .slice none 0 0] 96))) :=
      ⟨hr1.alloc _, Blk.new w1 _ _, bmore hB1 _, by omega⟩
    have hl2 := hl1.alloc (.cells #[.slice none 0 0, .slice none 0 0, .slice none 0 0] 96)
    clear x0 x1 x2
    obtain ⟨x0, x1, x2, _⟩ := hl2.three
    clear hb1 hr1 hl1 hB1 HBx HL
    go_wp2_with fail
    generalize w1.heap.size = B at *
    go_loopw [27] (fun i wr => (i = .int .i64 0 ∧ Hid (FR w B #[.slice none 0 0, .slice none 0 0, .slice none 0 0] wr)) ∨ (∃ (p1 : Option Addr) (d1 : Nat), i = .int .i64 1 ∧ Hid (gbdC x = 0) ∧ Hid (FR w B #[.slice p1 n d1, .slice none 0 0, .slice none 0 0] wr) ∧ Hid (OwI (B + 1) wr (.slice p1 n d1) X)) ∨ (∃ (p1 p2 : Option Addr) (d1 d2 : Nat), i = .int .i64 2 ∧ Hid (gbdC x = 0) ∧ Hid (gbdC y = 0) ∧ Hid (FR w B #[.slice p1 n d1, .slice p2 n d2, .slice none 0 0] wr) ∧ Hid (OwI (B + 1) wr (.slice p1 n d1) X) ∧ Hid (OwI (B + 1) wr (.slice p2 n d2) Y)) ∨ (∃ (p1 p2 p3 : Option Addr) (d1 d2 d3 : Nat), i = .int .i64 3 ∧ Hid (gbdC x = 0) ∧ Hid (gbdC y = 0) ∧ Hid (gbdC z = 0) ∧ Hid (FR w B #[.slice p1 n d1, .slice p2 n d2, .slice p3 n d3] wr) ∧ Hid (OwI (B + 1) wr (.slice p1 n d1) X) ∧ Hid (OwI (B + 1) wr (.slice p2 n d2) Y) ∧ Hid (OwI (B + 1) wr (.slice p3 n d3) Z))) (fun i _ => 3 - (intOf i).toNat)
    case atStart => exact .inl ⟨rfl, HK0⟩
    case round =>
    clear HK0 x0 x1 x2 hl2
    rcases hrel with ⟨rfl, HK⟩ | ⟨p1, d1, rfl, G1, HK, O1⟩ | ⟨p1, p2, d1, d2, rfl, G1, G2, HK, O1, O2⟩ | ⟨p1, p2, p3, d1, d2, d3, rfl, G1, G2, G3, HK, O1, O2, O3⟩
    · have hS := H1.out.later HK.out.b
      have hTb := HT.out.later HK.out.b
      by_cases hg : gbdC x = 0
      · have HGx := hid (fun W q t => HG1.out hg W q t)
        have G1 := hid hg
        clear HB1
        go_wp2_with fail
        refine (HGx.out _ hS hTb).mono ?_
        rintro e w2 ⟨p1, d1, rfl, ho2, hb2⟩
        have HK2 := hid (HK.out.later hb2)
        have HK3 := hid (HK2.out.later (bmore (Below.refl _ _) (.cells #[.int .i64 0, .slice p1 n d1] 35)))
        have HI3 := Blk.new w2 #[.int .i64 0, .slice p1 n d1] 35
        obtain ⟨z0, z1, _, _⟩ := HI3.two
        obtain ⟨c0, c1', c2', f0, f1, f2⟩ := HK3.out.q.three
        have hBl := HK2.out.q.lt
        have HK4 := hid ((HK2.out.set 0 (.slice p1 n d1)).later (bmore (Below.refl _ _) (.cells #[.int .i64 0, .slice p1 n d1] 35)))

        have P1 := hid ((Ow.over (ho2.mono (show B + 1 ≤ _ by have := HK.out.q.lt; omega)) (show B < B + 1 by omega) (grown_set _ B 0 (.slice p1 n d1))).later (bmore (Below.refl _ _) (.cells #[.int .i64 0, .slice p1 n d1] 35)))
        clear ho2 hb2 HK HK2 HK3 hS hTb 
        go_wp2
        go_roundw
        case rel => exact .inr (.inl ⟨p1, d1, by go_num, G1, HK4, P1⟩)
        case measure => simp [intOf]
      · have HGx := hid (fun W q t => HB1.out hg W q t)
        have HE := hid (fun W (hb : Below w.heap.size w W) => HN.out W (gbdC x) ((fun h => by rw [HF.out, if_neg h]) hg) hg hb)
        have hgb : (gbdC x != 0) = true := by simpa using hg
        clear HG1 hg
        generalize gbdC x = cg at *
        go_wp2_with fail
        refine (HGx.out _ hS hTb).mono ?_
        rintro e w2 ⟨pb, nb, db, rfl, hb2⟩
        have HK3 := hid (HK.out.later hb2)
        have HI3 := Blk.new w2 #[.int .i64 cg, .slice pb nb db] 35
        obtain ⟨z0, z1, _, _⟩ := HI3.two
        obtain ⟨c0, c1', f0, f1⟩ := HK3.out.r.two
        have hw2 := (HK.out.later hb2).r.lt
        clear hb2 HK hS hTb
        go_wp2
        exact bodyPost_ret (v := .agg #[.int .i64 cg, .slice none 0 0]) (by simp [results, Tryd.results29, go_sem, c0, c1', hw2]) rfl (HE.out _ (bmore (below_cell (below_cell HK3.out.b (Nat.le_refl _) _ _) (Nat.le_refl _) _ _) _))
    · have hS := H2.out.later HK.out.b
      have hTb := HT.out.later HK.out.b
      by_cases hg : gbdC y = 0
      · have HGx := hid (fun W q t => HG2.out hg W q t)
        have G2 := hid hg
        clear HB2
        go_wp2_with fail
        refine (HGx.out _ hS hTb).mono ?_
        rintro e w2 ⟨p2, d2, rfl, ho2, hb2⟩
        have HK2 := hid (HK.out.later hb2)
        have HK3 := hid (HK2.out.later (bmore (Below.refl _ _) (.cells #[.int .i64 0, .slice p2 n d2] 35)))
        have HI3 := Blk.new w2 #[.int .i64 0, .slice p2 n d2] 35
        obtain ⟨z0, z1, _, _⟩ := HI3.two
        obtain ⟨c0, c1', c2', f0, f1, f2⟩ := HK3.out.q.three
        have hBl := HK2.out.q.lt
        have HK4 := hid ((HK2.out.set 1 (.slice p2 n d2)).later (bmore (Below.refl _ _) (.cells #[.int .i64 0, .slice p2 n d2] 35)))
        have P1 := hid ((Ow.over (O1.out.later hb2) (show B < B + 1 by omega) (grown_set _ B 1 (.slice p2 n d2))).later (bmore (Below.refl _ _) (.cells #[.int .i64 0, .slice p2 n d2] 35)))
        have P2 := hid ((Ow.over (ho2.mono (show B + 1 ≤ _ by have := HK.out.q.lt; omega)) (show B < B + 1 by omega) (grown_set _ B 1 (.slice p2 n d2))).later (bmore (Below.refl _ _) (.cells #[.int .i64 0, .slice p2 n d2] 35)))
        clear ho2 hb2 HK HK2 HK3 hS hTb O1
        go_wp2
        go_roundw
        case rel => exact .inr (.inr (.inl ⟨p1, p2, d1, d2, by go_num, G1, G2, HK4, P1, P2⟩))
        case measure => simp [intOf]
      · have HGx := hid (fun W q t => HB2.out hg W q t)
        have HE := hid (fun W (hb : Below w.heap.size w W) => HN.out W (gbdC y) ((fun h => by rw [HF.out, if_pos G1.out, if_neg h]) hg) hg hb)
        have hgb : (gbdC y != 0) = true := by simpa using hg
        clear HG2 hg
        generalize gbdC y = cg at *
        go_wp2_with fail
        refine (HGx.out _ hS hTb).mono ?_
        rintro e w2 ⟨pb, nb, db, rfl, hb2⟩
        have HK3 := hid (HK.out.later hb2)
        have HI3 := Blk.new w2 #[.int .i64 cg, .slice pb nb db] 35
        obtain ⟨z0, z1, _, _⟩ := HI3.two
        obtain ⟨c0, c1', f0, f1⟩ := HK3.out.r.two
        have hw2 := (HK.out.later hb2).r.lt
        clear hb2 HK hS hTb
        go_wp2
        exact bodyPost_ret (v := .agg #[.int .i64 cg, .slice none 0 0]) (by simp [results, Tryd.results29, go_sem, c0, c1', hw2]) rfl (HE.out _ (bmore (below_cell (below_cell HK3.out.b (Nat.le_refl _) _ _) (Nat.le_refl _) _ _) _))
    · have hS := H3.out.later HK.out.b
      have hTb := HT.out.later HK.out.b
      by_cases hg : gbdC z = 0
      · have HGx := hid (fun W q t => HG3.out hg W q t)
        have G3 := hid hg
        clear HB3
        go_wp2_with fail
        refine (HGx.out _ hS hTb).mono ?_
        rintro e w2 ⟨p3, d3, rfl, ho2, hb2⟩
        have HK2 := hid (HK.out.later hb2)
        have HK3 := hid (HK2.out.later (bmore (Below.refl _ _) (.cells #[.int .i64 0, .slice p3 n d3] 35)))
        have HI3 := Blk.new w2 #[.int .i64 0, .slice p3 n d3] 35
        obtain ⟨z0, z1, _, _⟩ := HI3.two
        obtain ⟨c0, c1', c2', f0, f1, f2⟩ := HK3.out.q.three
        have hBl := HK2.out.q.lt
        have HK4 := hid ((HK2.out.set 2 (.slice p3 n d3)).later (bmore (Below.refl _ _) (.cells #[.int .i64 0, .slice p3 n d3] 35)))
        have P1 := hid ((Ow.over (O1.out.later hb2) (show B < B + 1 by omega) (grown_set _ B 2 (.slice p3 n d3))).later (bmore (Below.refl _ _) (.cells #[.int .i64 0, .slice p3 n d3] 35)))
        have P2 := hid ((Ow.over (O2.out.later hb2) (show B < B + 1 by omega) (grown_set _ B 2 (.slice p3 n d3))).later (bmore (Below.refl _ _) (.cells #[.int .i64 0, .slice p3 n d3] 35)))
        have P3 := hid ((Ow.over (ho2.mono (show B + 1 ≤ _ by have := HK.out.q.lt; omega)) (show B < B + 1 by omega) (grown_set _ B 2 (.slice p3 n d3))).later (bmore (Below.refl _ _) (.cells #[.int .i64 0, .slice p3 n d3] 35)))
        clear ho2 hb2 HK HK2 HK3 hS hTb O1 O2
        go_wp2
        go_roundw
        case rel => exact .inr (.inr (.inr (⟨p1, p2, p3, d1, d2, d3, by go_num, G1, G2, G3, HK4, P1, P2, P3⟩)))
        case measure => simp [intOf]
      · have HGx := hid (fun W q t => HB3.out hg W q t)
        have HE := hid (fun W (hb : Below w.heap.size w W) => HN.out W (gbdC z) ((fun h => by rw [HF.out, if_pos G1.out, if_pos G2.out]) hg) hg hb)
        have hgb : (gbdC z != 0) = true := by simpa using hg
        clear HG3 hg
        generalize gbdC z = cg at *
        go_wp2_with fail
        refine (HGx.out _ hS hTb).mono ?_
        rintro e w2 ⟨pb, nb, db, rfl, hb2⟩
        have HK3 := hid (HK.out.later hb2)
        have HI3 := Blk.new w2 #[.int .i64 cg, .slice pb nb db] 35
        obtain ⟨z0, z1, _, _⟩ := HI3.two
        obtain ⟨c0, c1', f0, f1⟩ := HK3.out.r.two
        have hw2 := (HK.out.later hb2).r.lt
        clear hb2 HK hS hTb
        go_wp2
        exact bodyPost_ret (v := .agg #[.int .i64 cg, .slice none 0 0]) (by simp [results, Tryd.results29, go_sem, c0, c1', hw2]) rfl (HE.out _ (bmore (below_cell (below_cell HK3.out.b (Nat.le_refl _) _ _) (Nat.le_refl _) _ _) _))
    · have H := HFB.out G1.out G2.out G3.out
      have HFq := hid (HFr.out G1.out G2.out G3.out)
      have HC := hid H.1
      have HLq := hid H.2
      obtain ⟨q0, q1, q2, _⟩ := HK.out.q.three
      have hTb := HT.out.later HK.out.b
      clear HFB HFr HN HF HG1 HG2 HG3 HB1 HB2 HB3 H
      go_wp2_with fail
      refine (HFq.out _ _ _ _ O1.out.sl O2.out.sl O3.out.sl O1.out.fits O2.out.fits O3.out.fits hTb).mono ?_
      rintro e w5 ⟨gk, ck, rfl, ho5, hb5⟩
      have HK5 := hid (HK.out.later hb5)
      have hs5 := HK.out.r.lt
      have hs6 := HK.out.b.size
      obtain ⟨c0, c1', f0, f1⟩ := HK5.out.r.two
      have HO := hid ((Ow.over ho5 hs5 (grown_set2 w5 w.heap.size (.int .i64 0) (.slice (some ⟨gk, 0, none⟩) n ck))).mono hs6)
      have HBq := hid (below_cell (below_cell HK5.out.b (Nat.le_refl _) 0 (.int .i64 0)) (Nat.le_refl _) 1 (.slice (some ⟨gk, 0, none⟩) n ck))
      clear ho5 hb5 HK O1 O2 O3 q0 q1 q2 HFq
      go_wp2
      exact bodyPost_ret (v := .agg #[.int .i64 0, .slice (some ⟨gk, 0, none⟩) n ck]) (by simp [results, Tryd.results29, go_sem, c0, c1']) rfl ⟨_, by rw [HC.out], by rw [HLq.out]; exact HO.out, HBq.out⟩
  · have HE := hid (fun W (hq : Below w.heap.size w W) => HN.out W (blF s x.length y.length z.length) (by
      unfold blF at hb ⊢; unfold frC
      split
      · rename_i hz
        rw [if_pos hz] at hb
        split
        · rename_i hl; rw [if_pos hl] at hb; exact absurd rfl hb
        · rfl
      · rfl) hb hq)
    have hbb : (blF s x.length y.length z.length != 0) = true := by simpa using hb
    clear hb HN h1 h2 h3 hT m1 m2 m3 H1 H2 H3 HT hbx
    generalize blF s x.length y.length z.length = c at *
    go_enter Tryd.func29, Tryd.ntmps29
    obtain ⟨x0, x1, x2, _⟩ := HBx.out.2.1.three
    go_wp2_with fail
    refine (HL.out _ _ _ _ _ _ _).mono ?_
    rintro e w1 ⟨rfl, hb1⟩
    obtain ⟨hr1, hl1, hB1, hz1⟩ := boxes2 hb1
    obtain ⟨c0, c1', f0, f1⟩ := hr1.two
    have HB1 := hid hB1
    clear hb1 hr1 hl1 hB1 HBx HL x0 x1 x2
    go_wp2
    exact bodyPost_ret (v := .agg #[.int .i64 c, .slice none 0 0]) (by simp [results, Tryd.results29, go_sem, c0, c1']) rfl (HE.out _ (below_cell (below_cell HB1.out (Nat.le_refl _) _ _) (Nat.le_refl _) _ _))
end Go.Proofs.YtbakmphopgkpmaaDoor.FrI
