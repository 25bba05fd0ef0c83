/- The program's reader: a slot is taken, a piece, a class, a value is read. -/
import Derived.Test.YthecfboplfmdmaaDoorRdM
import Derived.Test.YthecfboplfmdmaaDoorTakI
import Derived.Test.YthecfboplfmdmaaDoorStaI
import Derived.Test.YthecfboplfmdmaaDoorValK
import Derived.Deep.RegionHeld3
import Derived.Deep.CutBlock
import Derived.Deep.DeepCutAuto
namespace Go.Proofs.YthecfboplfmdmaaDoor.RdI
open Go.ChangeShapes Go.WideShapes Go.ChangeAt Go.RowKit Go.Proofs.YthecfboplfmdmaaDoor.Num Go.Proofs.YthecfboplfmdmaaDoor.Sli Go.Proofs.YthecfboplfmdmaaDoor.App Go.Proofs.YthecfboplfmdmaaDoor.Byt Go.Proofs.YthecfboplfmdmaaDoor.CrcM Go.Proofs.YthecfboplfmdmaaDoor.Div Go.Proofs.YthecfboplfmdmaaDoor.Dec Go.Proofs.YthecfboplfmdmaaDoor.Blk Go.Proofs.YthecfboplfmdmaaDoor.Nxt Go.Proofs.YthecfboplfmdmaaDoor.Byte Go.Proofs.YthecfboplfmdmaaDoor.TakS Go.Proofs.YthecfboplfmdmaaDoor.TakT Go.Proofs.YthecfboplfmdmaaDoor.TakI Go.Proofs.YthecfboplfmdmaaDoor.StaI Go.Proofs.YthecfboplfmdmaaDoor.RangeM Go.Proofs.YthecfboplfmdmaaDoor.SlS Go.Proofs.YthecfboplfmdmaaDoor.ValZ Go.Proofs.YthecfboplfmdmaaDoor.ValI Go.Proofs.YthecfboplfmdmaaDoor.ValJ Go.Proofs.YthecfboplfmdmaaDoor.ValK Go.Proofs.YthecfboplfmdmaaDoor.ValM Go.Proofs.YthecfboplfmdmaaDoor.RdM

/-- The reader in block g holds the decoder d, whose bytes lie in v. -/
structure RB (g : Nat) (d : Dv) (v : Value) (W : World) : Prop where
  k : Blk W g #[v, .int .i64 d.at', .int .i64 d.rst, .int .i64 d.rng] 93
  o : OwB 0 W v d.xs
theorem RB.later {g : Nat} {d : Dv} {v : Value} {W W' : World} (h : RB g d v W) (hb : Below W.heap.size W W') : RB g d v W' := ⟨h.k.later hb, h.o.later hb⟩
theorem RB.drew {g : Nat} {d : Dv} {v : Value} {W : World} (h : RB g d v W) : RB g d v W.drew := ⟨h.k, h.o⟩
theorem grown_of_below {w W : World} (h : Below w.heap.size w W) (r : Option Nat) : w.grownBy W r := ⟨h.os, h.tape, h.output, h.size, fun j hj _ => h.block j hj⟩
/-- What the reader's take keeps ahead of its store. -/
structure RT (w : World) (g : Nat) (d : Dv) (v : Value) (lo sz tot : Int) (W : World) : Prop where
  r : RB g d v W
  s : Blk W w.heap.size #[.int .i64 lo, .int .i64 sz, .int .i64 tot] 75
  b : Below w.heap.size w W
theorem RT.later {w : World} {g : Nat} {d : Dv} {v : Value} {lo sz tot : Int} {W W' : World} (h : RT w g d v lo sz tot W) (hb : Below W.heap.size W W') : RT w g d v lo sz tot W' := ⟨h.r.later hb, h.s.later hb, bthen h.b hb⟩
theorem RT.drew {w : World} {g : Nat} {d : Dv} {v : Value} {lo sz tot : Int} {W : World} (h : RT w g d v lo sz tot W) : RT w g d v lo sz tot W.drew := ⟨h.r.drew, h.s, h.b.drew⟩
theorem RT.put {w : World} {g : Nat} {d : Dv} {v : Value} {lo sz tot : Int} {W : World} {E : Nat} {vs : Array Value} {t : TypeId} (h : RT w g d v lo sz tot W) (hE : Blk W E vs t) (h1 : E ≠ g) (h2 : w.heap.size < E) (ht : t ≠ 5) (i : Nat) (x : Value) : RT w g d v lo sz tot (W.setCell ⟨E, i, none⟩ x) :=
  ⟨⟨h.r.k.other h1 i x, ow_apart h.r.o hE ht (grown_set W E i x)⟩, h.s.other (by omega) i x, below_cell h.b (by omega) i x⟩
theorem blk_set5 {w : World} {b : Nat} {v0 v1 v2 v3 v4 : Value} {t : TypeId} (h : Blk w b #[v0, v1, v2, v3, v4] t) (x0 x1 x2 x3 x4 : Value) :
    Blk (((((w.setCell ⟨b, 0, none⟩ x0).setCell ⟨b, 1, none⟩ x1).setCell ⟨b, 2, none⟩ x2).setCell ⟨b, 3, none⟩ x3).setCell ⟨b, 4, none⟩ x4) b #[x0, x1, x2, x3, x4] t := ((((h.set 0 x0).set 1 x1).set 2 x2).set 3 x3).set 4 x4
theorem RT.put5 {w : World} {g : Nat} {d : Dv} {v : Value} {lo sz tot : Int} {W : World} {E : Nat} {v0 v1 v2 v3 v4 : Value} {t : TypeId} (h : RT w g d v lo sz tot W) (hE : Blk W E #[v0, v1, v2, v3, v4] t) (h1 : E ≠ g) (h2 : w.heap.size < E) (ht : t ≠ 5) (x0 x1 x2 x3 x4 : Value) :
    RT w g d v lo sz tot (((((W.setCell ⟨E, 0, none⟩ x0).setCell ⟨E, 1, none⟩ x1).setCell ⟨E, 2, none⟩ x2).setCell ⟨E, 3, none⟩ x3).setCell ⟨E, 4, none⟩ x4) :=
  ((((h.put hE h1 h2 ht 0 x0).put (hE.set 0 x0) h1 h2 ht 1 x1).put ((hE.set 0 x0).set 1 x1) h1 h2 ht 2 x2).put (((hE.set 0 x0).set 1 x1).set 2 x2) h1 h2 ht 3 x3).put ((((hE.set 0 x0).set 1 x1).set 2 x2).set 3 x3) h1 h2 ht 4 x4
set_option maxRecDepth 100000 in
set_option maxHeartbeats 4000000 in
theorem take_calls (g : Nat) (d d' : Dv) (v : Value) (lo sz tot : Int) (w : World) (h : RB g d v w) (hx : BytesL d.xs) (hl : d.xs.length ≤ 1048576) (hC : tC d lo sz tot = 0) (hD : tD d lo sz tot = d') :
    Calls Tryd.prog 98 #[.pointer (some ⟨g, 0, none⟩), .agg #[.int .i64 lo, .int .i64 sz, .int .i64 tot]] w fun e w' => e = .returned (.tuple #[]) ∧ ∃ v', RB g d' v' w' ∧ w.grownBy w' (some g) := by
  have HT := hid (fun u W (hs : Sl .u8 W u d.xs) => implTake_calls u d lo sz tot W hs hx hl)
  rw [hC, hD] at HT
  clear hC hD hx hl
  have hgl := h.k.lt
  have HR : Hid (RT w g d v lo sz tot (w.alloc (.cells #[.int .i64 lo, .int .i64 sz, .int .i64 tot] 75))) := ⟨h.later (bmore (Below.refl _ _) _), Blk.new _ _ _, bmore (Below.refl _ _) _⟩
  obtain ⟨av, cv, rfl, _⟩ := h.o.sl
  clear h
  obtain ⟨xs, at', rst, rng⟩ := d
  obtain ⟨xs2, at2, rst2, rng2⟩ := d'
  dsimp only at *
  go_enter Tryd.func98, Tryd.ntmps98
  go_upto_region 1 with fail
  have hsw : w.heap.size < (w.alloc (.cells #[.int .i64 lo, .int .i64 sz, .int .i64 tot] 75)).heap.size := by simp
  generalize w.alloc (.cells #[.int .i64 lo, .int .i64 sz, .int .i64 tot] 75) = wr at *
  go_cut [4] from 5 to 10 (fun p wc => ∃ (E : Nat) (v' : Value), p = .pointer (some ⟨E, 0, none⟩) ∧ E ≠ g ∧ Hid (Blk wc E #[.int .i64 0, v', .int .i64 at2, .int .i64 rst2, .int .i64 rng2] 90) ∧ Hid (OwB 0 wc v' xs2) ∧ Hid (RT w g ⟨xs, at', rst, rng⟩ (.slice av xs.length cv) lo sz tot wc))
  case first =>
    have hL0 := HR.out.drew
    have hgw : g < wr.heap.size := by omega
    have hA1 : RT w g ⟨xs, at', rst, rng⟩ (.slice av xs.length cv) lo sz tot (wr.alloc (.cells #[.int .i64 0, .slice none 0 0, .int .i64 0, .int .i64 0, .int .i64 0] 90)).drew := (HR.out.later (bmore (Below.refl _ _) _)).drew
    have hE1 : Blk (wr.alloc (.cells #[.int .i64 0, .slice none 0 0, .int .i64 0, .int .i64 0, .int .i64 0] 90)).drew wr.heap.size #[.int .i64 0, .slice none 0 0, .int .i64 0, .int .i64 0, .int .i64 0] 90 := Blk.new wr _ _
    have hws : wr.heap.size ≠ g := by omega
    refine wp_region_noPanic ?_
    refine wp_region_held_drew (S := fun W => RT w g ⟨xs, at', rst, rng⟩ (.slice av xs.length cv) lo sz tot W) (by kernel_rfl) (by first | exact hP9 | exact hL9 | exact hP7 | exact hL7 | exact hA1 | exact hL0) (fun hHeld => ?_)
    (refine wpAnyH_take (i := 0) (v := ?_) rfl (by kernel_rfl) (by kernel_rfl) (by kernel_rfl) (fun _ _ _ h => h) (Or.inl ⟨by rfl, ?_⟩) hHeld ?_; rotate_left; (intro w hSw; (obtain ⟨t0, t1, t2, t3, _⟩ := hSw.r.k.four; obtain ⟨s0, s1, s2, _⟩ := hSw.s.three; clear hSw; dsimp only at t0 t1 t2 t3); (go_simp <;> with_reducible rfl)); simp only [List.getElem_toArray, List.getElem_cons_zero, Act.put, List.setIfInBounds_toArray, List.set_cons_zero, List.set_cons_succ])
    (refine wpAnyH_take (i := 1) (v := ?_) rfl (by kernel_rfl) (by kernel_rfl) (by kernel_rfl) (fun _ _ _ h => h) (Or.inl ⟨by rfl, ?_⟩) hHeld ?_; rotate_left; (intro w hSw; (obtain ⟨t0, t1, t2, t3, _⟩ := hSw.r.k.four; obtain ⟨s0, s1, s2, _⟩ := hSw.s.three; clear hSw; dsimp only at t0 t1 t2 t3); (go_simp <;> with_reducible rfl)); simp only [List.getElem_toArray, List.getElem_cons_zero, List.getElem_cons_succ, Act.put, List.setIfInBounds_toArray, List.set_cons_zero, List.set_cons_succ])
    (refine wpAnyH_take (i := 2) (v := ?_) rfl (by kernel_rfl) (by kernel_rfl) (by kernel_rfl) (fun _ _ _ h => h) (Or.inl ⟨by rfl, ?_⟩) hHeld ?_; rotate_left; (intro w hSw; (obtain ⟨t0, t1, t2, t3, _⟩ := hSw.r.k.four; obtain ⟨s0, s1, s2, _⟩ := hSw.s.three; clear hSw; dsimp only at t0 t1 t2 t3); (go_simp <;> with_reducible rfl)); simp only [List.getElem_toArray, List.getElem_cons_zero, List.getElem_cons_succ, Act.put, List.setIfInBounds_toArray, List.set_cons_zero, List.set_cons_succ])
    (refine wpAnyH_take (i := 3) (v := ?_) rfl (by kernel_rfl) (by kernel_rfl) (by kernel_rfl) (fun _ _ _ h => h) (Or.inl ⟨by rfl, ?_⟩) hHeld ?_; rotate_left; (intro w hSw; (obtain ⟨t0, t1, t2, t3, _⟩ := hSw.r.k.four; obtain ⟨s0, s1, s2, _⟩ := hSw.s.three; clear hSw; dsimp only at t0 t1 t2 t3); (go_simp <;> with_reducible rfl)); simp only [List.getElem_toArray, List.getElem_cons_zero, List.getElem_cons_succ, Act.put, List.setIfInBounds_toArray, List.set_cons_zero, List.set_cons_succ])
    (refine wpAnyH_take (i := 4) (v := ?_) rfl (by kernel_rfl) (by kernel_rfl) (by kernel_rfl) (fun _ _ _ h => h) (Or.inl ⟨by rfl, ?_⟩) hHeld ?_; rotate_left; (intro w hSw; (obtain ⟨t0, t1, t2, t3, _⟩ := hSw.r.k.four; obtain ⟨s0, s1, s2, _⟩ := hSw.s.three; clear hSw; dsimp only at t0 t1 t2 t3); (go_simp <;> with_reducible rfl)); simp only [List.getElem_toArray, List.getElem_cons_zero, List.getElem_cons_succ, Act.put, List.setIfInBounds_toArray, List.set_cons_zero, List.set_cons_succ])
    refine wpAnyH_ready (rs := [5, 6]) (by kernel_rfl) (by simp) ?_
    refine (AllReadyH.cons rfl (fun K hK => ?_) (AllReadyH.cons rfl (fun K hK => ?_) AllReadyH.nil))
    · go_simp
      (refine (HT.out _ _ hHeld.r.o.sl).mono ?_; rintro e w9 ⟨v9, rfl, ho9, hb9⟩; dsimp only at ho9; obtain ⟨a9, c9, rfl, _⟩ := ho9.sl; have hL9 := hHeld.later hb9; have hL7 := hL9.later (bmore (Below.refl _ _) (.cells #[.int .i64 0, .slice none 0 0, .int .i64 0, .int .i64 0, .int .i64 0] 90)); have hP7 := hL9.later (bmore (Below.refl _ _) (.cells #[.int .i64 0, .slice a9 xs2.length c9, .int .i64 at2, .int .i64 rst2, .int .i64 rng2] 90)); have hO7 := (ho9.mono (Nat.zero_le _)).alloc (.cells #[.int .i64 0, .slice a9 xs2.length c9, .int .i64 at2, .int .i64 rst2, .int .i64 rng2] 90); have hne9 : w9.heap.size ≠ g := by (have := hL9.r.k.lt; omega))
      refine hK.out _ _ (by first | exact hP9 | exact hL9 | exact hP7 | exact hL7 | exact hA1 | exact hL0) (fun hHeld => ?_)
      clear hK K
      try dsimp only
      refine wpAnyH_ready (rs := [6]) (by kernel_rfl) (by simp) ?_
      refine (AllReadyH.cons rfl (fun K hK => ?_) AllReadyH.nil)
      go_simp
      skip
      refine hK.out _ _ (by first | exact hP9 | exact hL9 | exact hP7 | exact hL7 | exact hA1 | exact hL0) (fun hHeld => ?_)
      clear hK K
      try simp only [List.getElem_toArray, List.getElem_cons_zero, List.getElem_cons_succ, Act.put, List.setIfInBounds_toArray, List.set_cons_zero, List.set_cons_succ]
      refine wpAnyH_ready (rs := [7]) (by kernel_rfl) (by simp) ?_
      refine (AllReadyH.cons rfl (fun K hK => ?_) AllReadyH.nil)
      go_simp
      skip
      refine hK.out _ _ (by first | exact hP9 | exact hL9 | exact hP7 | exact hL7 | exact hA1 | exact hL0) (fun hHeld => ?_)
      clear hK K
      try simp only [List.getElem_toArray, List.getElem_cons_zero, List.getElem_cons_succ, Act.put, List.setIfInBounds_toArray, List.set_cons_zero, List.set_cons_succ]
      refine wpAnyH_done (by kernel_rfl) ?_ _
      refine NoPanic.normal ?_
      go_wp2_with fail
      go_meet
      case rel => exact ⟨_, _, rfl, hne9, Blk.new _ _ _, hO7, hP7⟩
    · go_simp
      skip
      refine hK.out _ _ (by first | exact hP9 | exact hL9 | exact hP7 | exact hL7 | exact hA1 | exact hL0) (fun hHeld => ?_)
      clear hK K
      try simp only [List.getElem_toArray, List.getElem_cons_zero, List.getElem_cons_succ, Act.put, List.setIfInBounds_toArray, List.set_cons_zero, List.set_cons_succ]
      refine wpAnyH_ready (rs := [5]) (by kernel_rfl) (by simp) ?_
      refine (AllReadyH.cons rfl (fun K hK => ?_) AllReadyH.nil)
      go_simp
      (refine (HT.out _ _ hHeld.r.o.sl).mono ?_; rintro e w9 ⟨v9, rfl, ho9, hb9⟩; dsimp only at ho9; obtain ⟨a9, c9, rfl, _⟩ := ho9.sl; have hL9 := hHeld.later hb9; have hE9 := hE1.later hb9; obtain ⟨y0, y1, y2, y3, y4, x0, x1, x2, x3, x4⟩ := hE9.five; have hP9 := hL9.put5 hE9 hws hsw (by decide) (.int .i64 0) (.slice a9 xs2.length c9) (.int .i64 at2) (.int .i64 rst2) (.int .i64 rng2); have hQ9 := blk_set5 hE9 (.int .i64 0) (.slice a9 xs2.length c9) (.int .i64 at2) (.int .i64 rst2) (.int .i64 rng2); have hO9 := ow_apart (ho9.mono (Nat.zero_le _)) hE9 (by decide) (grown_set5 w9 wr.heap.size (.int .i64 0) (.slice a9 xs2.length c9) (.int .i64 at2) (.int .i64 rst2) (.int .i64 rng2)))
      refine hK.out _ _ (by first | exact hP9 | exact hL9 | exact hP7 | exact hL7 | exact hA1 | exact hL0) (fun hHeld => ?_)
      clear hK K
      try dsimp only
      refine wpAnyH_ready (rs := [7]) (by kernel_rfl) (by simp) ?_
      refine (AllReadyH.cons rfl (fun K hK => ?_) AllReadyH.nil)
      go_simp
      skip
      refine hK.out _ _ (by first | exact hP9 | exact hL9 | exact hP7 | exact hL7 | exact hA1 | exact hL0) (fun hHeld => ?_)
      clear hK K
      try simp only [List.getElem_toArray, List.getElem_cons_zero, List.getElem_cons_succ, Act.put, List.setIfInBounds_toArray, List.set_cons_zero, List.set_cons_succ]
      refine wpAnyH_done (by kernel_rfl) ?_ _
      refine NoPanic.normal ?_
      go_wp2_with fail
      go_meet
      case rel => exact ⟨_, _, rfl, hws, hQ9, hO9, hP9⟩
  case rest =>
    obtain ⟨E, v', rfl, hEg, hE, hO, hR⟩ := hcut
    clear HR HT
    obtain ⟨a2, c2, rfl, _⟩ := hO.out.sl
    obtain ⟨y0, y1, y2, y3, y4, _⟩ := hE.out.five
    obtain ⟨t0, t1, t2, t3, f0, f1, f2, f3⟩ := hR.out.r.k.four
    have HQ := hid (Blk.set4 hR.out.r.k (.slice a2 xs2.length c2) (.int .i64 at2) (.int .i64 rst2) (.int .i64 rng2))
    have HO2 := hid (ow_apart hO.out hR.out.r.k (by decide) (grown_set4 wc g (.slice a2 xs2.length c2) (.int .i64 at2) (.int .i64 rst2) (.int .i64 rng2)))
    have HG := hid (grown_same (grown_of_below hR.out.b (some g)) (grown_set4 wc g (.slice a2 xs2.length c2) (.int .i64 at2) (.int .i64 rst2) (.int .i64 rng2)))
    clear hE hO hR
    dsimp only at t0 t1 t2 t3
    go_wp2
    go_end0
    exact ⟨rfl, _, ⟨HQ.out, HO2.out⟩, HG.out⟩
end Go.Proofs.YthecfboplfmdmaaDoor.RdI
