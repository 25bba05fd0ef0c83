/- Fates that are drawn. -/
import Derived.Test.YtobmngoodjmdaaaDoorDrwF
import Derived.Test.YtobmngoodjmdaaaDoorDrwH
namespace Go.Proofs.YtobmngoodjmdaaaDoor.DrwK
open Go.ChangeShapes Go.WideShapes Go.ChangeAt Go.RowKit Go.Proofs.YtobmngoodjmdaaaDoor.Num Go.Proofs.YtobmngoodjmdaaaDoor.Sli Go.Proofs.YtobmngoodjmdaaaDoor.App Go.Proofs.YtobmngoodjmdaaaDoor.Blk Go.Proofs.YtobmngoodjmdaaaDoor.IntL Go.Proofs.YtobmngoodjmdaaaDoor.LapS Go.Proofs.YtobmngoodjmdaaaDoor.Src Go.Proofs.YtobmngoodjmdaaaDoor.Lists Go.Proofs.YtobmngoodjmdaaaDoor.Samples Go.Proofs.YtobmngoodjmdaaaDoor.Draws Go.Proofs.YtobmngoodjmdaaaDoor.DrwF

/-- What the draw of a fate keeps. -/
structure FT (w0 w : World) (g : Nat) (a : Option Addr) (cap : Nat) (bs : List Int) (at' : Nat) (W : World) : Prop where
  r : Blk W w.heap.size #[.int .i64 0, .int .i64 0, .int .i64 0, .int .i64 0] 44
  src : Src w0 W g a cap bs at'
  k : w.grownBy W (some g)
  lg : g < w.heap.size
section
variable {w0 w W W' : World} {g : Nat} {a : Option Addr} {cap : Nat} {bs : List Int} {at' at2 : Nat}
theorem FT.next (h : FT w0 w g a cap bs at' W) (hs : Src w0 W' g a cap bs at2) (hg : W.grownBy W' (some g)) : FT w0 w g a cap bs at2 W' :=
  have h3 := h.lg
  ⟨h.r.kept hg (by simp; omega), hs, grown_same h.k hg, h3⟩
theorem FT.later (h : FT w0 w g a cap bs at' W) (hb : Below W.heap.size W W') : FT w0 w g a cap bs at' W' := h.next (src_grown (row := none) h.src (grown_below hb) (fun _ e => by cases e)) (grown_below hb)
theorem FT.alloc (h : FT w0 w g a cap bs at' W) (o : Obj) : FT w0 w g a cap bs at' (W.alloc o) := h.later (bmore (Below.refl _ _) o)
theorem FT.new (h : Src w0 w g a cap bs at') : FT w0 w g a cap bs at' (w.alloc (.cells #[.int .i64 0, .int .i64 0, .int .i64 0, .int .i64 0] 44)) :=
  have hb := bmore (Below.refl _ w) (.cells #[.int .i64 0, .int .i64 0, .int .i64 0, .int .i64 0] 44)
  ⟨Blk.new _ _ _, src_grown (row := none) h (grown_below hb) (fun _ e => by cases e), grown_below hb, src_lt h⟩
theorem far4 (h : FT w0 w g a cap bs at' W) (x y z v : Int) : Src w0 ((((W.setCell ⟨w.heap.size, 0, none⟩ (.int .i64 x)).setCell ⟨w.heap.size, 1, none⟩ (.int .i64 y)).setCell ⟨w.heap.size, 2, none⟩ (.int .i64 z)).setCell ⟨w.heap.size, 3, none⟩ (.int .i64 v)) g a cap bs at' ∧ w.grownBy ((((W.setCell ⟨w.heap.size, 0, none⟩ (.int .i64 x)).setCell ⟨w.heap.size, 1, none⟩ (.int .i64 y)).setCell ⟨w.heap.size, 2, none⟩ (.int .i64 z)).setCell ⟨w.heap.size, 3, none⟩ (.int .i64 v)) (some g) := by
  have hg := grown_set4 W w.heap.size (.int .i64 x) (.int .i64 y) (.int .i64 z) (.int .i64 v)
  have h3 := h.lg
  have h0 := h.src.1
  exact ⟨src_grown h.src hg (fun j e => by cases e; omega), DrwH.far_k h.k (Nat.le_refl _) hg⟩
end
set_option maxRecDepth 100000 in
set_option maxHeartbeats 4000000 in
theorem l20Fate_calls (w0 w : World) (g : Nat) (a : Option Addr) (cap : Nat) (bs : List Int) (at' : Nat) (calm : Int) (h : Src w0 w g a cap bs at') (hat : at' ≤ 20000) :
    Calls Tryd.prog 106 #[.pointer (some ⟨g, 0, none⟩), .int .i64 calm] w fun e w' => ∃ (x y z v : Int) (at2 : Nat), e = .returned (.agg #[.int .i64 x, .int .i64 y, .int .i64 z, .int .i64 v]) ∧ at2 ≤ at' + 8 ∧ Src w0 w' g a cap bs at2 ∧ w.grownBy w' (some g) := by
  have HK0 := hid (FT.new h)
  clear h
  go_enter Tryd.func106, Tryd.ntmps106
  go_wp2_with fail
  refine (l1Next_calls w0 _ g a cap bs _ 10 HK0.out.src (by omega) (by omega) (by omega)).mono ?_
  rintro e w1 ⟨r, rfl, _, _, hs1, hg1⟩
  have HK1 := hid (HK0.out.next hs1 hg1)
  clear hs1 hg1 HK0
  by_cases hc : r < calm
  · go_wp2_with fail
    refine (l1Pick_lit w0 _ g a cap bs _ 4 2 [0, 0, 0, 1] _ HK1.out.src (by omega) rfl rfl (by omega) (by omega)).mono ?_
    rintro e w2 ⟨x, rfl, _, hs2, hg2⟩
    have HK := hid ((HK1.out.alloc (.cells #[.int .i64 0, .int .i64 0, .int .i64 0, .int .i64 1] 2)).next hs2 hg2)
    clear hs2 hg2 HK1
    obtain ⟨r0, r1, r2, r3, f0, f1, f2, f3⟩ := HK.out.r.four
    have HG := hid (far4 HK.out (1) (x) (0) (0))
    clear HK
    go_wp2
    exact bodyPost_ret (v := .agg #[.int .i64 (1), .int .i64 (x), .int .i64 (0), .int .i64 (0)]) (by simp [results, Tryd.results106, go_sem, r0, r1, r2, r3]) rfl ⟨_, _, _, _, _, rfl, by omega, HG.out.1, HG.out.2⟩
  · go_wp2_with fail
    refine (l1Next_calls w0 _ g a cap bs _ 5 HK1.out.src (by omega) (by omega) (by omega)).mono ?_
    rintro e w2 ⟨q, rfl, hq0, hq5, hs2, hg2⟩
    have HK2 := hid (HK1.out.next hs2 hg2)
    clear hs2 hg2 HK1
    by_cases k0 : q = 0
    · subst k0
      have HK := HK2
      clear HK2 hq0 hq5
      obtain ⟨r0, r1, r2, r3, f0, f1, f2, f3⟩ := HK.out.r.four
      have HG := hid (far4 HK.out (0) (0) (0) (0))
      clear HK
      go_wp2
      exact bodyPost_ret (v := .agg #[.int .i64 (0), .int .i64 (0), .int .i64 (0), .int .i64 (0)]) (by simp [results, Tryd.results106, go_sem, r0, r1, r2, r3]) rfl ⟨_, _, _, _, _, rfl, by omega, HG.out.1, HG.out.2⟩
    · have b0 : (q == 0) = false := by simpa using k0
      by_cases k1 : q = 1
      · subst k1
        have HK := HK2
        clear HK2 hq0 hq5 k0 b0
        obtain ⟨r0, r1, r2, r3, f0, f1, f2, f3⟩ := HK.out.r.four
        have HG := hid (far4 HK.out (0) (0) (0) (0))
        clear HK
        go_wp2
        exact bodyPost_ret (v := .agg #[.int .i64 (0), .int .i64 (0), .int .i64 (0), .int .i64 (0)]) (by simp [results, Tryd.results106, go_sem, r0, r1, r2, r3]) rfl ⟨_, _, _, _, _, rfl, by omega, HG.out.1, HG.out.2⟩
      · have b1 : (q == 1) = false := by simpa using k1
        by_cases k2 : q = 2
        · subst k2
          clear hq0 hq5 k0 b0 k1 b1
          go_wp2_with fail
          refine (l1Next_calls w0 _ g a cap bs _ 7 HK2.out.src (by omega) (by omega) (by omega)).mono ?_
          rintro e w3 ⟨x, rfl, _, _, hs3, hg3⟩
          have HK := hid (HK2.out.next hs3 hg3)
          clear hs3 hg3 HK2
          obtain ⟨r0, r1, r2, r3, f0, f1, f2, f3⟩ := HK.out.r.four
          have HG := hid (far4 HK.out (2) (x) (0) (0))
          clear HK
          go_wp2
          exact bodyPost_ret (v := .agg #[.int .i64 (2), .int .i64 (x), .int .i64 (0), .int .i64 (0)]) (by simp [results, Tryd.results106, go_sem, r0, r1, r2, r3]) rfl ⟨_, _, _, _, _, rfl, by omega, HG.out.1, HG.out.2⟩
        · have b2 : (q == 2) = false := by simpa using k2
          by_cases k3 : q = 3
          · subst k3
            clear hq0 hq5 k0 b0 k1 b1 k2 b2
            go_wp2_with fail
            refine (l1Next_calls w0 _ g a cap bs _ 3 HK2.out.src (by omega) (by omega) (by omega)).mono ?_
            rintro e w3 ⟨x, rfl, _, _, hs3, hg3⟩
            have HK3 := hid (HK2.out.next hs3 hg3)
            clear hs3 hg3 HK2
            go_wp2_with fail
            refine (l1Next_calls w0 _ g a cap bs _ 90 HK3.out.src (by omega) (by omega) (by omega)).mono ?_
            rintro e w4 ⟨y1, rfl, _, _, hs4, hg4⟩
            have HK4 := hid (HK3.out.next hs4 hg4)
            clear hs4 hg4 HK3
            go_wp2_with fail
            refine (l1Next_calls w0 _ g a cap bs _ 300 HK4.out.src (by omega) (by omega) (by omega)).mono ?_
            rintro e w5 ⟨y2, rfl, _, _, hs5, hg5⟩
            have HK5 := hid (HK4.out.next hs5 hg5)
            clear hs5 hg5 HK4
            go_wp2_with fail
            refine (l1Pick_lit w0 _ g a cap bs _ 3 2 [y1, y2, 0] _ HK5.out.src (by omega) rfl rfl (by omega) (by omega)).mono ?_
            rintro e w6 ⟨y, rfl, _, hs6, hg6⟩
            have HK6 := hid ((HK5.out.alloc (.cells #[.int .i64 y1, .int .i64 y2, .int .i64 0] 2)).next hs6 hg6)
            clear hs6 hg6 HK5
            go_wp2_with fail
            refine (l1Next_calls w0 _ g a cap bs _ 65535 HK6.out.src (by omega) (by omega) (by omega)).mono ?_
            rintro e w7 ⟨z1, rfl, hz0, hz1, hs7, hg7⟩
            have HK7 := hid (HK6.out.next hs7 hg7)
            clear hs7 hg7 HK6
            go_wp2_with fail
            refine (l1Pick_lit w0 _ g a cap bs _ 4 2 [1, 3, 65535, 1 + z1] _ HK7.out.src (by omega) rfl rfl (by omega) (by omega)).mono ?_
            rintro e w8 ⟨z, rfl, _, hs8, hg8⟩
            have HK := hid ((HK7.out.alloc (.cells #[.int .i64 1, .int .i64 3, .int .i64 65535, .int .i64 (1 + z1)] 2)).next hs8 hg8)
            clear hs8 hg8 HK7
            obtain ⟨r0, r1, r2, r3, f0, f1, f2, f3⟩ := HK.out.r.four
            have HG := hid (far4 HK.out (3) (x) (y) (z))
            clear HK
            go_wp2
            exact bodyPost_ret (v := .agg #[.int .i64 (3), .int .i64 (x), .int .i64 (y), .int .i64 (z)]) (by simp [results, Tryd.results106, go_sem, r0, r1, r2, r3]) rfl ⟨_, _, _, _, _, rfl, by omega, HG.out.1, HG.out.2⟩
          · have b3 : (q == 3) = false := by simpa using k3
            clear k0 k1 k2 k3
            go_wp2_with fail
            refine (l1Next_calls w0 _ g a cap bs _ 7 HK2.out.src (by omega) (by omega) (by omega)).mono ?_
            rintro e w3 ⟨x, rfl, _, _, hs3, hg3⟩
            have HK := hid (HK2.out.next hs3 hg3)
            clear hs3 hg3 HK2
            obtain ⟨r0, r1, r2, r3, f0, f1, f2, f3⟩ := HK.out.r.four
            have HG := hid (far4 HK.out (1) (x) (0) (0))
            clear HK
            go_wp2
            exact bodyPost_ret (v := .agg #[.int .i64 (1), .int .i64 (x), .int .i64 (0), .int .i64 (0)]) (by simp [results, Tryd.results106, go_sem, r0, r1, r2, r3]) rfl ⟨_, _, _, _, _, rfl, by omega, HG.out.1, HG.out.2⟩
set_option maxRecDepth 100000 in
theorem l20Back_calls (w0 w : World) (g : Nat) (a : Option Addr) (cap : Nat) (bs : List Int) (at' : Nat) (h : Src w0 w g a cap bs at') (hat : at' ≤ 20000) :
    Calls Tryd.prog 107 #[.pointer (some ⟨g, 0, none⟩)] w fun e w' => ∃ (x y z v : Int) (at2 : Nat), e = .returned (.agg #[.int .i64 x, .int .i64 y, .int .i64 z, .int .i64 v]) ∧ at2 ≤ at' + 8 ∧ Src w0 w' g a cap bs at2 ∧ w.grownBy w' (some g) := by
  have HK0 := hid (FT.new h)
  clear h
  go_enter Tryd.func107, Tryd.ntmps107
  go_wp2_with fail
  refine (l1Chance_calls w0 _ g a cap bs _ 4 HK0.out.src (by omega) (by omega) (by omega)).mono ?_
  rintro e w1 ⟨c, rfl, hs1, hg1⟩
  have HK1 := hid (HK0.out.next hs1 hg1)
  clear hs1 hg1 HK0
  cases c
  · go_wp2_with fail
    refine (l1Pick_lit w0 _ g a cap bs _ 4 2 [0, 0, 1, 3] _ HK1.out.src (by omega) rfl rfl (by omega) (by omega)).mono ?_
    rintro e w2 ⟨x, rfl, _, hs2, hg2⟩
    have HK := hid ((HK1.out.alloc (.cells #[.int .i64 0, .int .i64 0, .int .i64 1, .int .i64 3] 2)).next hs2 hg2)
    clear hs2 hg2 HK1
    obtain ⟨r0, r1, r2, r3, f0, f1, f2, f3⟩ := HK.out.r.four
    have HG := hid (far4 HK.out (1) (x) (0) (0))
    clear HK
    go_wp2
    exact bodyPost_ret (v := .agg #[.int .i64 (1), .int .i64 (x), .int .i64 (0), .int .i64 (0)]) (by simp [results, Tryd.results107, go_sem, r0, r1, r2, r3]) rfl ⟨_, _, _, _, _, rfl, by omega, HG.out.1, HG.out.2⟩
  · have HK := HK1
    clear HK1
    obtain ⟨r0, r1, r2, r3, f0, f1, f2, f3⟩ := HK.out.r.four
    have HG := hid (far4 HK.out (0) (0) (0) (0))
    clear HK
    go_wp2
    exact bodyPost_ret (v := .agg #[.int .i64 (0), .int .i64 (0), .int .i64 (0), .int .i64 (0)]) (by simp [results, Tryd.results107, go_sem, r0, r1, r2, r3]) rfl ⟨_, _, _, _, _, rfl, by omega, HG.out.1, HG.out.2⟩
end Go.Proofs.YtobmngoodjmdaaaDoor.DrwK
