/- Fates that are drawn. || New senders, receivers and sessions of the model, as they are drawn. || Sessions and steps that are drawn. || Lists of steps that are drawn. -/
import Derived.Test.YtgnbailcibhenaaDoorGm
import Derived.Laws.CopyOwn
import Derived.Laws.Tables
import Derived.Laws.Rows
import Derived.Maps.AppendAt
namespace Go.Proofs.YtgnbailcibhenaaDoor.DrwK
open Go.ChangeShapes Go.WideShapes Go.ChangeAt Go.RowKit Go.Proofs.YtgnbailcibhenaaDoor.Num Go.Proofs.YtgnbailcibhenaaDoor.Sli Go.Proofs.YtgnbailcibhenaaDoor.App Go.Proofs.YtgnbailcibhenaaDoor.Blk Go.Proofs.YtgnbailcibhenaaDoor.IntL Go.Proofs.YtgnbailcibhenaaDoor.LapS Go.Proofs.YtgnbailcibhenaaDoor.Src Go.Proofs.YtgnbailcibhenaaDoor.Lists Go.Proofs.YtgnbailcibhenaaDoor.Samples Go.Proofs.YtgnbailcibhenaaDoor.Draws Go.Proofs.YtgnbailcibhenaaDoor.DrwF

/-- What the draw of a fate keeps. -/
structure FT (w0 w : World) (g : Nat) (a : Option Addr) (cap : Nat) (bs : List Int) (at' : Nat) (W : World) : Prop where
  r : Blk W w.heap.size #[.int .i64 0, .int .i64 0, .int .i64 0, .int .i64 0] 44
  src : Src w0 W g a cap bs at'
  k : w.grownBy W (some g)
  lg : g < w.heap.size
section
variable {w0 w W W' : World} {g : Nat} {a : Option Addr} {cap : Nat} {bs : List Int} {at' at2 : Nat}
theorem FT.next (h : FT w0 w g a cap bs at' W) (hs : Src w0 W' g a cap bs at2) (hg : W.grownBy W' (some g)) : FT w0 w g a cap bs at2 W' :=
  have h3 := h.lg
  ⟨h.r.kept hg (by simp; omega), hs, grown_same h.k hg, h3⟩
theorem FT.later (h : FT w0 w g a cap bs at' W) (hb : Below W.heap.size W W') : FT w0 w g a cap bs at' W' := h.next (src_grown (row := none) h.src (grown_below hb) (fun _ e => by cases e)) (grown_below hb)
theorem FT.alloc (h : FT w0 w g a cap bs at' W) (o : Obj) : FT w0 w g a cap bs at' (W.alloc o) := h.later (bmore (Below.refl _ _) o)
theorem FT.new (h : Src w0 w g a cap bs at') : FT w0 w g a cap bs at' (w.alloc (.cells #[.int .i64 0, .int .i64 0, .int .i64 0, .int .i64 0] 44)) :=
  have hb := bmore (Below.refl _ w) (.cells #[.int .i64 0, .int .i64 0, .int .i64 0, .int .i64 0] 44)
  ⟨Blk.new _ _ _, src_grown (row := none) h (grown_below hb) (fun _ e => by cases e), grown_below hb, src_lt h⟩
theorem far4 (h : FT w0 w g a cap bs at' W) (x y z v : Int) : Src w0 ((((W.setCell ⟨w.heap.size, 0, none⟩ (.int .i64 x)).setCell ⟨w.heap.size, 1, none⟩ (.int .i64 y)).setCell ⟨w.heap.size, 2, none⟩ (.int .i64 z)).setCell ⟨w.heap.size, 3, none⟩ (.int .i64 v)) g a cap bs at' ∧ w.grownBy ((((W.setCell ⟨w.heap.size, 0, none⟩ (.int .i64 x)).setCell ⟨w.heap.size, 1, none⟩ (.int .i64 y)).setCell ⟨w.heap.size, 2, none⟩ (.int .i64 z)).setCell ⟨w.heap.size, 3, none⟩ (.int .i64 v)) (some g) := by
  have hg := grown_set4 W w.heap.size (.int .i64 x) (.int .i64 y) (.int .i64 z) (.int .i64 v)
  have h3 := h.lg
  have h0 := h.src.1
  exact ⟨src_grown h.src hg (fun j e => by cases e; omega), DrwH.far_k h.k (Nat.le_refl _) hg⟩
end
set_option maxRecDepth 100000 in
set_option maxHeartbeats 4000000 in
theorem l20Fate_calls (w0 w : World) (g : Nat) (a : Option Addr) (cap : Nat) (bs : List Int) (at' : Nat) (calm : Int) (h : Src w0 w g a cap bs at') (hat : at' ≤ 20000) :
    Calls Tryd.prog 110 #[.pointer (some ⟨g, 0, none⟩), .int .i64 calm] w fun e w' => ∃ (x y z v : Int) (at2 : Nat), e = .returned (.agg #[.int .i64 x, .int .i64 y, .int .i64 z, .int .i64 v]) ∧ at2 ≤ at' + 8 ∧ Src w0 w' g a cap bs at2 ∧ w.grownBy w' (some g) := by
  have HK0 := hid (FT.new h)
  clear h
  go_enter Tryd.func110, Tryd.ntmps110
  go_wp2_with fail
  refine (l1Next_calls w0 _ g a cap bs _ 10 HK0.out.src (by omega) (by omega) (by omega)).mono ?_
  rintro e w1 ⟨r, rfl, _, _, hs1, hg1⟩
  have HK1 := hid (HK0.out.next hs1 hg1)
  clear hs1 hg1 HK0
  by_cases hc : r < calm
  · go_wp2_with fail
    refine (l1Pick_lit w0 _ g a cap bs _ 4 2 [0, 0, 0, 1] _ HK1.out.src (by omega) rfl rfl (by omega) (by omega)).mono ?_
    rintro e w2 ⟨x, rfl, _, hs2, hg2⟩
    have HK := hid ((HK1.out.alloc (.cells #[.int .i64 0, .int .i64 0, .int .i64 0, .int .i64 1] 2)).next hs2 hg2)
    clear hs2 hg2 HK1
    obtain ⟨r0, r1, r2, r3, f0, f1, f2, f3⟩ := HK.out.r.four
    have HG := hid (far4 HK.out (1) (x) (0) (0))
    clear HK
    go_wp2
    exact bodyPost_ret (v := .agg #[.int .i64 (1), .int .i64 (x), .int .i64 (0), .int .i64 (0)]) (by simp [results, Tryd.results110, go_sem, r0, r1, r2, r3]) rfl ⟨_, _, _, _, _, rfl, by omega, HG.out.1, HG.out.2⟩
  · go_wp2_with fail
    refine (l1Next_calls w0 _ g a cap bs _ 5 HK1.out.src (by omega) (by omega) (by omega)).mono ?_
    rintro e w2 ⟨q, rfl, hq0, hq5, hs2, hg2⟩
    have HK2 := hid (HK1.out.next hs2 hg2)
    clear hs2 hg2 HK1
    by_cases k0 : q = 0
    · subst k0
      have HK := HK2
      clear HK2 hq0 hq5
      obtain ⟨r0, r1, r2, r3, f0, f1, f2, f3⟩ := HK.out.r.four
      have HG := hid (far4 HK.out (0) (0) (0) (0))
      clear HK
      go_wp2
      exact bodyPost_ret (v := .agg #[.int .i64 (0), .int .i64 (0), .int .i64 (0), .int .i64 (0)]) (by simp [results, Tryd.results110, go_sem, r0, r1, r2, r3]) rfl ⟨_, _, _, _, _, rfl, by omega, HG.out.1, HG.out.2⟩
    · have b0 : (q == 0) = false := by simpa using k0
      by_cases k1 : q = 1
      · subst k1
        have HK := HK2
        clear HK2 hq0 hq5 k0 b0
        obtain ⟨r0, r1, r2, r3, f0, f1, f2, f3⟩ := HK.out.r.four
        have HG := hid (far4 HK.out (0) (0) (0) (0))
        clear HK
        go_wp2
        exact bodyPost_ret (v := .agg #[.int .i64 (0), .int .i64 (0), .int .i64 (0), .int .i64 (0)]) (by simp [results, Tryd.results110, go_sem, r0, r1, r2, r3]) rfl ⟨_, _, _, _, _, rfl, by omega, HG.out.1, HG.out.2⟩
      · have b1 : (q == 1) = false := by simpa using k1
        by_cases k2 : q = 2
        · subst k2
          clear hq0 hq5 k0 b0 k1 b1
          go_wp2_with fail
          refine (l1Next_calls w0 _ g a cap bs _ 7 HK2.out.src (by omega) (by omega) (by omega)).mono ?_
          rintro e w3 ⟨x, rfl, _, _, hs3, hg3⟩
          have HK := hid (HK2.out.next hs3 hg3)
          clear hs3 hg3 HK2
          obtain ⟨r0, r1, r2, r3, f0, f1, f2, f3⟩ := HK.out.r.four
          have HG := hid (far4 HK.out (2) (x) (0) (0))
          clear HK
          go_wp2
          exact bodyPost_ret (v := .agg #[.int .i64 (2), .int .i64 (x), .int .i64 (0), .int .i64 (0)]) (by simp [results, Tryd.results110, go_sem, r0, r1, r2, r3]) rfl ⟨_, _, _, _, _, rfl, by omega, HG.out.1, HG.out.2⟩
        · have b2 : (q == 2) = false := by simpa using k2
          by_cases k3 : q = 3
          · subst k3
            clear hq0 hq5 k0 b0 k1 b1 k2 b2
            go_wp2_with fail
            refine (l1Next_calls w0 _ g a cap bs _ 3 HK2.out.src (by omega) (by omega) (by omega)).mono ?_
            rintro e w3 ⟨x, rfl, _, _, hs3, hg3⟩
            have HK3 := hid (HK2.out.next hs3 hg3)
            clear hs3 hg3 HK2
            go_wp2_with fail
            refine (l1Next_calls w0 _ g a cap bs _ 90 HK3.out.src (by omega) (by omega) (by omega)).mono ?_
            rintro e w4 ⟨y1, rfl, _, _, hs4, hg4⟩
            have HK4 := hid (HK3.out.next hs4 hg4)
            clear hs4 hg4 HK3
            go_wp2_with fail
            refine (l1Next_calls w0 _ g a cap bs _ 300 HK4.out.src (by omega) (by omega) (by omega)).mono ?_
            rintro e w5 ⟨y2, rfl, _, _, hs5, hg5⟩
            have HK5 := hid (HK4.out.next hs5 hg5)
            clear hs5 hg5 HK4
            go_wp2_with fail
            refine (l1Pick_lit w0 _ g a cap bs _ 3 2 [y1, y2, 0] _ HK5.out.src (by omega) rfl rfl (by omega) (by omega)).mono ?_
            rintro e w6 ⟨y, rfl, _, hs6, hg6⟩
            have HK6 := hid ((HK5.out.alloc (.cells #[.int .i64 y1, .int .i64 y2, .int .i64 0] 2)).next hs6 hg6)
            clear hs6 hg6 HK5
            go_wp2_with fail
            refine (l1Next_calls w0 _ g a cap bs _ 65535 HK6.out.src (by omega) (by omega) (by omega)).mono ?_
            rintro e w7 ⟨z1, rfl, hz0, hz1, hs7, hg7⟩
            have HK7 := hid (HK6.out.next hs7 hg7)
            clear hs7 hg7 HK6
            go_wp2_with fail
            refine (l1Pick_lit w0 _ g a cap bs _ 4 2 [1, 3, 65535, 1 + z1] _ HK7.out.src (by omega) rfl rfl (by omega) (by omega)).mono ?_
            rintro e w8 ⟨z, rfl, _, hs8, hg8⟩
            have HK := hid ((HK7.out.alloc (.cells #[.int .i64 1, .int .i64 3, .int .i64 65535, .int .i64 (1 + z1)] 2)).next hs8 hg8)
            clear hs8 hg8 HK7
            obtain ⟨r0, r1, r2, r3, f0, f1, f2, f3⟩ := HK.out.r.four
            have HG := hid (far4 HK.out (3) (x) (y) (z))
            clear HK
            go_wp2
            exact bodyPost_ret (v := .agg #[.int .i64 (3), .int .i64 (x), .int .i64 (y), .int .i64 (z)]) (by simp [results, Tryd.results110, go_sem, r0, r1, r2, r3]) rfl ⟨_, _, _, _, _, rfl, by omega, HG.out.1, HG.out.2⟩
          · have b3 : (q == 3) = false := by simpa using k3
            clear k0 k1 k2 k3
            go_wp2_with fail
            refine (l1Next_calls w0 _ g a cap bs _ 7 HK2.out.src (by omega) (by omega) (by omega)).mono ?_
            rintro e w3 ⟨x, rfl, _, _, hs3, hg3⟩
            have HK := hid (HK2.out.next hs3 hg3)
            clear hs3 hg3 HK2
            obtain ⟨r0, r1, r2, r3, f0, f1, f2, f3⟩ := HK.out.r.four
            have HG := hid (far4 HK.out (1) (x) (0) (0))
            clear HK
            go_wp2
            exact bodyPost_ret (v := .agg #[.int .i64 (1), .int .i64 (x), .int .i64 (0), .int .i64 (0)]) (by simp [results, Tryd.results110, go_sem, r0, r1, r2, r3]) rfl ⟨_, _, _, _, _, rfl, by omega, HG.out.1, HG.out.2⟩
set_option maxRecDepth 100000 in
theorem l20Back_calls (w0 w : World) (g : Nat) (a : Option Addr) (cap : Nat) (bs : List Int) (at' : Nat) (h : Src w0 w g a cap bs at') (hat : at' ≤ 20000) :
    Calls Tryd.prog 111 #[.pointer (some ⟨g, 0, none⟩)] w fun e w' => ∃ (x y z v : Int) (at2 : Nat), e = .returned (.agg #[.int .i64 x, .int .i64 y, .int .i64 z, .int .i64 v]) ∧ at2 ≤ at' + 8 ∧ Src w0 w' g a cap bs at2 ∧ w.grownBy w' (some g) := by
  have HK0 := hid (FT.new h)
  clear h
  go_enter Tryd.func111, Tryd.ntmps111
  go_wp2_with fail
  refine (l1Chance_calls w0 _ g a cap bs _ 4 HK0.out.src (by omega) (by omega) (by omega)).mono ?_
  rintro e w1 ⟨c, rfl, hs1, hg1⟩
  have HK1 := hid (HK0.out.next hs1 hg1)
  clear hs1 hg1 HK0
  cases c
  · go_wp2_with fail
    refine (l1Pick_lit w0 _ g a cap bs _ 4 2 [0, 0, 1, 3] _ HK1.out.src (by omega) rfl rfl (by omega) (by omega)).mono ?_
    rintro e w2 ⟨x, rfl, _, hs2, hg2⟩
    have HK := hid ((HK1.out.alloc (.cells #[.int .i64 0, .int .i64 0, .int .i64 1, .int .i64 3] 2)).next hs2 hg2)
    clear hs2 hg2 HK1
    obtain ⟨r0, r1, r2, r3, f0, f1, f2, f3⟩ := HK.out.r.four
    have HG := hid (far4 HK.out (1) (x) (0) (0))
    clear HK
    go_wp2
    exact bodyPost_ret (v := .agg #[.int .i64 (1), .int .i64 (x), .int .i64 (0), .int .i64 (0)]) (by simp [results, Tryd.results111, go_sem, r0, r1, r2, r3]) rfl ⟨_, _, _, _, _, rfl, by omega, HG.out.1, HG.out.2⟩
  · have HK := HK1
    clear HK1
    obtain ⟨r0, r1, r2, r3, f0, f1, f2, f3⟩ := HK.out.r.four
    have HG := hid (far4 HK.out (0) (0) (0) (0))
    clear HK
    go_wp2
    exact bodyPost_ret (v := .agg #[.int .i64 (0), .int .i64 (0), .int .i64 (0), .int .i64 (0)]) (by simp [results, Tryd.results111, go_sem, r0, r1, r2, r3]) rfl ⟨_, _, _, _, _, rfl, by omega, HG.out.1, HG.out.2⟩
end Go.Proofs.YtgnbailcibhenaaDoor.DrwK

namespace Go.Proofs.YtgnbailcibhenaaDoor.DrwM
open Go.ChangeShapes Go.WideShapes Go.ChangeAt Go.RowKit Go.Proofs.YtgnbailcibhenaaDoor.Num Go.Proofs.YtgnbailcibhenaaDoor.Sli Go.Proofs.YtgnbailcibhenaaDoor.App Go.Proofs.YtgnbailcibhenaaDoor.Samp Go.Proofs.YtgnbailcibhenaaDoor.Blk Go.Proofs.YtgnbailcibhenaaDoor.LapM Go.Proofs.YtgnbailcibhenaaDoor.IntL Go.Proofs.YtgnbailcibhenaaDoor.IntA Go.Proofs.YtgnbailcibhenaaDoor.LapS Go.Proofs.YtgnbailcibhenaaDoor.Src Go.Proofs.YtgnbailcibhenaaDoor.Lists Go.Proofs.YtgnbailcibhenaaDoor.Samples Go.Proofs.YtgnbailcibhenaaDoor.Draws Go.Proofs.YtgnbailcibhenaaDoor.DrwF

theorem szSender : (Tryd.prog.info? 78).map (·.size) = some 17 := by kernel_rfl
theorem szReceiver : (Tryd.prog.info? 81).map (·.size) = some 16 := by kernel_rfl
theorem szSession : (Tryd.prog.info? 87).map (·.size) = some 39 := by kernel_rfl
set_option maxRecDepth 100000 in
set_option maxHeartbeats 2000000 in
theorem l17New_calls (s b r : Int) (w : World) (hz : szF s = 0) :
    Calls Tryd.prog 108 #[.int .i64 s, .int .i64 b, .int .i64 r] w fun e w' => ∃ a1 n1 c1 a2 n2 c2, e = .returned (.agg #[.int .i64 s, .int .i64 b, .int .i64 r, .int .i64 0, .int .i64 s, .slice a1 n1 c1, .slice a2 n2 c2, .bool false, .int .i64 0, .int .i64 0, .slice none 0 0, .bool false, .int .i64 0, .int .i64 0, .slice none 0 0, .int .i64 0, .int .i64 0]) ∧ Below w.heap.size w w' := by
  have HN := hid (fun W => l7New_calls s W hz)
  clear hz
  go_enter Tryd.func108, Tryd.ntmps108
  go_wp2_with fail
  refine (HN.out _).mono ?_
  rintro e w1 ⟨u, t, rfl, ht, hb⟩
  obtain ⟨a1, c1, rfl, -⟩ := ht.s.sl
  obtain ⟨a2, c2, rfl, -⟩ := ht.d.sl
  have HB := hid ((Blk.new w #[.int .i64 0, .int .i64 0, .int .i64 0, .int .i64 0, .int .i64 0, .slice none 0 0, .slice none 0 0, .bool false, .int .i64 0, .int .i64 0, .slice none 0 0, .bool false, .int .i64 0, .int .i64 0, .slice none 0 0, .int .i64 0, .int .i64 0] 78).later hb)
  have HLb := hid (bthen (bmore (Below.refl _ w) (.cells #[.int .i64 0, .int .i64 0, .int .i64 0, .int .i64 0, .int .i64 0, .slice none 0 0, .slice none 0 0, .bool false, .int .i64 0, .int .i64 0, .slice none 0 0, .bool false, .int .i64 0, .int .i64 0, .slice none 0 0, .int .i64 0, .int .i64 0] 78)) hb)
  clear ht hb HN
  generalize (List.replicate (hN s) (0 : Int)).length = n1 at *
  have hset := setRow_heap w1 w.heap.size _ #[.int .i64 s, .int .i64 b, .int .i64 r, .int .i64 0, .int .i64 s, .slice a1 n1 c1, .slice a2 n1 c2, .bool false, .int .i64 0, .int .i64 0, .slice none 0 0, .bool false, .int .i64 0, .int .i64 0, .slice none 0 0, .int .i64 0, .int .i64 0] 78 (0, 0) HB.out
  have hbel := below_setRow HLb.out (Nat.le_refl _) #[.int .i64 s, .int .i64 b, .int .i64 r, .int .i64 0, .int .i64 s, .slice a1 n1 c1, .slice a2 n1 c2, .bool false, .int .i64 0, .int .i64 0, .slice none 0 0, .bool false, .int .i64 0, .int .i64 0, .slice none 0 0, .int .i64 0, .int .i64 0]
  have HSt := hid hset
  have HBl := hid hbel
  clear hset hbel
  go_wp2_with (refine wpList_store_row rfl 78 _ _ rfl w.heap.size #[.int .i64 s, .int .i64 b, .int .i64 r, .int .i64 0, .int .i64 s, .slice a1 n1 c1, .slice a2 n1 c2, .bool false, .int .i64 0, .int .i64 0, .slice none 0 0, .bool false, .int .i64 0, .int .i64 0, .slice none 0 0, .int .i64 0, .int .i64 0] rfl rfl 78 _ HB.out szSender rfl (by simp [Value.oneCell']) ?_)
  exact bodyPost_ret (v := .agg #[.int .i64 s, .int .i64 b, .int .i64 r, .int .i64 0, .int .i64 s, .slice a1 n1 c1, .slice a2 n1 c2, .bool false, .int .i64 0, .int .i64 0, .slice none 0 0, .bool false, .int .i64 0, .int .i64 0, .slice none 0 0, .int .i64 0, .int .i64 0]) (results_cell_row rfl _ _ w.heap.size 78 #[.int .i64 s, .int .i64 b, .int .i64 r, .int .i64 0, .int .i64 s, .slice a1 n1 c1, .slice a2 n1 c2, .bool false, .int .i64 0, .int .i64 0, .slice none 0 0, .bool false, .int .i64 0, .int .i64 0, .slice none 0 0, .int .i64 0, .int .i64 0] (0, 0) _ rfl HSt.out Tryd.underlying78 rfl szSender) rfl ⟨_, _, _, _, _, _, rfl, HBl.out⟩
set_option maxRecDepth 100000 in
set_option maxHeartbeats 2000000 in
theorem l18New_calls (s : Int) (w : World) (hz : szF s = 0) :
    Calls Tryd.prog 109 #[.int .i64 s] w fun e w' => ∃ a3 n3 c3 a4 n4 c4 a5 n5 c5, e = .returned (.agg #[.int .i64 s, .int .i64 0, .slice none 0 0, .bool false, .int .i64 0, .int .i64 0, .slice none 0 0, .bool false, .int .i64 0, .int .i64 0, .slice none 0 0, .int .i64 s, .slice a3 n3 c3, .slice a4 n4 c4, .slice a5 n5 c5, .int .i64 0]) ∧ Below w.heap.size w w' := by
  have HN := hid (fun W => l7NewSynth_calls s W hz)
  obtain ⟨-, e1, -, -, -, -⟩ := sz_nat hz
  have HZ := hid (fun W => zeros_calls s.toNat W (by rcases TurM.sz_cases hz with rfl | rfl | rfl <;> decide))
  rw [e1] at HZ
  generalize s.toNat = n5 at HZ
  clear hz e1
  go_enter Tryd.func109, Tryd.ntmps109
  go_wp2_with fail
  refine (HZ.out _).mono ?_
  rintro e w1 ⟨rfl, _, hb1⟩
  have HB1 := hid ((Blk.new w #[.int .i64 0, .int .i64 0, .slice none 0 0, .bool false, .int .i64 0, .int .i64 0, .slice none 0 0, .bool false, .int .i64 0, .int .i64 0, .slice none 0 0, .int .i64 0, .slice none 0 0, .slice none 0 0, .slice none 0 0, .int .i64 0] 81).later hb1)
  have HL1 := hid (bthen (bmore (Below.refl _ w) (.cells #[.int .i64 0, .int .i64 0, .slice none 0 0, .bool false, .int .i64 0, .int .i64 0, .slice none 0 0, .bool false, .int .i64 0, .int .i64 0, .slice none 0 0, .int .i64 0, .slice none 0 0, .slice none 0 0, .slice none 0 0, .int .i64 0] 81)) hb1)
  clear hb1 HZ
  go_wp2_with fail
  refine (HN.out _).mono ?_
  rintro e w2 ⟨u, t, rfl, ht, hb⟩
  obtain ⟨a3, c3, rfl, -⟩ := ht.s.sl
  obtain ⟨a4, c4, rfl, -⟩ := ht.d.sl
  have HB := hid (HB1.out.later hb)
  have HLb := hid (bthen HL1.out hb)
  clear ht hb HN HB1 HL1
  generalize (List.replicate (hN s) (0 : Int)).length = n3 at *
  have hset := setRow_heap w2 w.heap.size _ #[.int .i64 s, .int .i64 0, .slice none 0 0, .bool false, .int .i64 0, .int .i64 0, .slice none 0 0, .bool false, .int .i64 0, .int .i64 0, .slice none 0 0, .int .i64 s, .slice a3 n3 c3, .slice a4 n3 c4, .slice (some ⟨w.heap.size + 1, 0, none⟩) n5 n5, .int .i64 0] 81 (0, 0) HB.out
  have hbel := below_setRow HLb.out (Nat.le_refl _) #[.int .i64 s, .int .i64 0, .slice none 0 0, .bool false, .int .i64 0, .int .i64 0, .slice none 0 0, .bool false, .int .i64 0, .int .i64 0, .slice none 0 0, .int .i64 s, .slice a3 n3 c3, .slice a4 n3 c4, .slice (some ⟨w.heap.size + 1, 0, none⟩) n5 n5, .int .i64 0]
  have HSt := hid hset
  have HBl := hid hbel
  clear hset hbel
  go_wp2_with (refine wpList_store_row rfl 81 _ _ rfl w.heap.size #[.int .i64 s, .int .i64 0, .slice none 0 0, .bool false, .int .i64 0, .int .i64 0, .slice none 0 0, .bool false, .int .i64 0, .int .i64 0, .slice none 0 0, .int .i64 s, .slice a3 n3 c3, .slice a4 n3 c4, .slice (some ⟨w.heap.size + 1, 0, none⟩) n5 n5, .int .i64 0] rfl rfl 81 _ HB.out szReceiver rfl (by simp [Value.oneCell']) ?_)
  exact bodyPost_ret (v := .agg #[.int .i64 s, .int .i64 0, .slice none 0 0, .bool false, .int .i64 0, .int .i64 0, .slice none 0 0, .bool false, .int .i64 0, .int .i64 0, .slice none 0 0, .int .i64 s, .slice a3 n3 c3, .slice a4 n3 c4, .slice (some ⟨w.heap.size + 1, 0, none⟩) n5 n5, .int .i64 0]) (results_cell_row rfl _ _ w.heap.size 81 #[.int .i64 s, .int .i64 0, .slice none 0 0, .bool false, .int .i64 0, .int .i64 0, .slice none 0 0, .bool false, .int .i64 0, .int .i64 0, .slice none 0 0, .int .i64 s, .slice a3 n3 c3, .slice a4 n3 c4, .slice (some ⟨w.heap.size + 1, 0, none⟩) n5 n5, .int .i64 0] (0, 0) _ rfl HSt.out Tryd.underlying81 rfl szReceiver) rfl ⟨_, _, _, _, _, _, _, _, _, rfl, HBl.out⟩
set_option maxRecDepth 100000 in
set_option maxHeartbeats 8000000 in
theorem l20New_calls (s b r wt : Int) (w : World) (hz : szF s = 0) :
    Calls Tryd.prog 75 #[.int .i64 s, .int .i64 b, .int .i64 r, .int .i64 wt] w fun e w' => ∃ a1 n1 c1 a2 n2 c2 a3 n3 c3 a4 n4 c4 a5 n5 c5, e = .returned (.agg #[.int .i64 s, .int .i64 b, .int .i64 r, .int .i64 0, .int .i64 s, .slice a1 n1 c1, .slice a2 n2 c2, .bool false, .int .i64 0, .int .i64 0, .slice none 0 0, .bool false, .int .i64 0, .int .i64 0, .slice none 0 0, .int .i64 0, .int .i64 0, .int .i64 s, .int .i64 0, .slice none 0 0, .bool false, .int .i64 0, .int .i64 0, .slice none 0 0, .bool false, .int .i64 0, .int .i64 0, .slice none 0 0, .int .i64 s, .slice a3 n3 c3, .slice a4 n4 c4, .slice a5 n5 c5, .int .i64 0, .int .i64 (-1), .slice none 0 0, .int .i64 0, .int .i64 wt, .slice none 0 0, .slice none 0 0]) ∧ Below w.heap.size w w' := by
  have H1 := hid (fun W => l17New_calls s b r W hz)
  have H2 := hid (fun W => l18New_calls s W hz)
  clear hz
  go_enter Tryd.func75, Tryd.ntmps75
  go_wp2_with fail
  refine (H1.out _).mono ?_
  rintro e w1 ⟨a1, n1, c1, a2, n2, c2, rfl, hb1⟩
  have HB1 := hid ((Blk.new w #[.int .i64 0, .int .i64 0, .int .i64 0, .int .i64 0, .int .i64 0, .slice none 0 0, .slice none 0 0, .bool false, .int .i64 0, .int .i64 0, .slice none 0 0, .bool false, .int .i64 0, .int .i64 0, .slice none 0 0, .int .i64 0, .int .i64 0, .int .i64 0, .int .i64 0, .slice none 0 0, .bool false, .int .i64 0, .int .i64 0, .slice none 0 0, .bool false, .int .i64 0, .int .i64 0, .slice none 0 0, .int .i64 0, .slice none 0 0, .slice none 0 0, .slice none 0 0, .int .i64 0, .int .i64 0, .slice none 0 0, .int .i64 0, .int .i64 0, .slice none 0 0, .slice none 0 0] 87).later hb1)
  have HL1 := hid (bthen (bmore (Below.refl _ w) (.cells #[.int .i64 0, .int .i64 0, .int .i64 0, .int .i64 0, .int .i64 0, .slice none 0 0, .slice none 0 0, .bool false, .int .i64 0, .int .i64 0, .slice none 0 0, .bool false, .int .i64 0, .int .i64 0, .slice none 0 0, .int .i64 0, .int .i64 0, .int .i64 0, .int .i64 0, .slice none 0 0, .bool false, .int .i64 0, .int .i64 0, .slice none 0 0, .bool false, .int .i64 0, .int .i64 0, .slice none 0 0, .int .i64 0, .slice none 0 0, .slice none 0 0, .slice none 0 0, .int .i64 0, .int .i64 0, .slice none 0 0, .int .i64 0, .int .i64 0, .slice none 0 0, .slice none 0 0] 87)) hb1)
  clear hb1 H1
  go_wp2_with fail
  refine (H2.out _).mono ?_
  rintro e w2 ⟨a3, n3, c3, a4, n4, c4, a5, n5, c5, rfl, hb⟩
  have HB := hid (HB1.out.later hb)
  have HLb := hid (bthen HL1.out hb)
  clear hb H2 HB1 HL1
  have hset := setRow_heap w2 w.heap.size _ #[.int .i64 s, .int .i64 b, .int .i64 r, .int .i64 0, .int .i64 s, .slice a1 n1 c1, .slice a2 n2 c2, .bool false, .int .i64 0, .int .i64 0, .slice none 0 0, .bool false, .int .i64 0, .int .i64 0, .slice none 0 0, .int .i64 0, .int .i64 0, .int .i64 s, .int .i64 0, .slice none 0 0, .bool false, .int .i64 0, .int .i64 0, .slice none 0 0, .bool false, .int .i64 0, .int .i64 0, .slice none 0 0, .int .i64 s, .slice a3 n3 c3, .slice a4 n4 c4, .slice a5 n5 c5, .int .i64 0, .int .i64 (-1), .slice none 0 0, .int .i64 0, .int .i64 wt, .slice none 0 0, .slice none 0 0] 87 (0, 0) HB.out
  have hbel := below_setRow HLb.out (Nat.le_refl _) #[.int .i64 s, .int .i64 b, .int .i64 r, .int .i64 0, .int .i64 s, .slice a1 n1 c1, .slice a2 n2 c2, .bool false, .int .i64 0, .int .i64 0, .slice none 0 0, .bool false, .int .i64 0, .int .i64 0, .slice none 0 0, .int .i64 0, .int .i64 0, .int .i64 s, .int .i64 0, .slice none 0 0, .bool false, .int .i64 0, .int .i64 0, .slice none 0 0, .bool false, .int .i64 0, .int .i64 0, .slice none 0 0, .int .i64 s, .slice a3 n3 c3, .slice a4 n4 c4, .slice a5 n5 c5, .int .i64 0, .int .i64 (-1), .slice none 0 0, .int .i64 0, .int .i64 wt, .slice none 0 0, .slice none 0 0]
  have HSt := hid hset
  have HBl := hid hbel
  clear hset hbel
  go_wp2_with (refine wpList_store_row rfl 87 _ _ rfl w.heap.size #[.int .i64 s, .int .i64 b, .int .i64 r, .int .i64 0, .int .i64 s, .slice a1 n1 c1, .slice a2 n2 c2, .bool false, .int .i64 0, .int .i64 0, .slice none 0 0, .bool false, .int .i64 0, .int .i64 0, .slice none 0 0, .int .i64 0, .int .i64 0, .int .i64 s, .int .i64 0, .slice none 0 0, .bool false, .int .i64 0, .int .i64 0, .slice none 0 0, .bool false, .int .i64 0, .int .i64 0, .slice none 0 0, .int .i64 s, .slice a3 n3 c3, .slice a4 n4 c4, .slice a5 n5 c5, .int .i64 0, .int .i64 (-1), .slice none 0 0, .int .i64 0, .int .i64 wt, .slice none 0 0, .slice none 0 0] rfl rfl 87 _ HB.out szSession rfl (by simp [Value.oneCell']) ?_)
  exact bodyPost_ret (v := .agg #[.int .i64 s, .int .i64 b, .int .i64 r, .int .i64 0, .int .i64 s, .slice a1 n1 c1, .slice a2 n2 c2, .bool false, .int .i64 0, .int .i64 0, .slice none 0 0, .bool false, .int .i64 0, .int .i64 0, .slice none 0 0, .int .i64 0, .int .i64 0, .int .i64 s, .int .i64 0, .slice none 0 0, .bool false, .int .i64 0, .int .i64 0, .slice none 0 0, .bool false, .int .i64 0, .int .i64 0, .slice none 0 0, .int .i64 s, .slice a3 n3 c3, .slice a4 n4 c4, .slice a5 n5 c5, .int .i64 0, .int .i64 (-1), .slice none 0 0, .int .i64 0, .int .i64 wt, .slice none 0 0, .slice none 0 0]) (results_cell_row rfl _ _ w.heap.size 87 #[.int .i64 s, .int .i64 b, .int .i64 r, .int .i64 0, .int .i64 s, .slice a1 n1 c1, .slice a2 n2 c2, .bool false, .int .i64 0, .int .i64 0, .slice none 0 0, .bool false, .int .i64 0, .int .i64 0, .slice none 0 0, .int .i64 0, .int .i64 0, .int .i64 s, .int .i64 0, .slice none 0 0, .bool false, .int .i64 0, .int .i64 0, .slice none 0 0, .bool false, .int .i64 0, .int .i64 0, .slice none 0 0, .int .i64 s, .slice a3 n3 c3, .slice a4 n4 c4, .slice a5 n5 c5, .int .i64 0, .int .i64 (-1), .slice none 0 0, .int .i64 0, .int .i64 wt, .slice none 0 0, .slice none 0 0] (0, 0) _ rfl HSt.out Tryd.underlying87 rfl szSession) rfl ⟨_, _, _, _, _, _, _, _, _, _, _, _, _, _, _, rfl, HBl.out⟩
end Go.Proofs.YtgnbailcibhenaaDoor.DrwM

namespace Go.Proofs.YtgnbailcibhenaaDoor.DrwN
open Go.ChangeShapes Go.WideShapes Go.ChangeAt Go.RowKit Go.Proofs.YtgnbailcibhenaaDoor.Num Go.Proofs.YtgnbailcibhenaaDoor.Sli Go.Proofs.YtgnbailcibhenaaDoor.App Go.Proofs.YtgnbailcibhenaaDoor.Samp Go.Proofs.YtgnbailcibhenaaDoor.Blk Go.Proofs.YtgnbailcibhenaaDoor.LapM Go.Proofs.YtgnbailcibhenaaDoor.IntL Go.Proofs.YtgnbailcibhenaaDoor.IntA Go.Proofs.YtgnbailcibhenaaDoor.LapS Go.Proofs.YtgnbailcibhenaaDoor.Src Go.Proofs.YtgnbailcibhenaaDoor.Lists Go.Proofs.YtgnbailcibhenaaDoor.Samples Go.Proofs.YtgnbailcibhenaaDoor.Draws Go.Proofs.YtgnbailcibhenaaDoor.DrwF Go.Proofs.YtgnbailcibhenaaDoor.DrwK Go.Proofs.YtgnbailcibhenaaDoor.DrwM

/-- What a draw into an answer's block keeps. -/
structure GK (w0 w : World) (g : Nat) (a : Option Addr) (cap : Nat) (bs : List Int) (R : Nat) (cs : Array Value) (ty : TypeId) (at' : Nat) (W : World) : Prop where
  r : Blk W R cs ty
  src : Src w0 W g a cap bs at'
  k : w.grownBy W (some g)
  lr : w.heap.size ≤ R
  lg : g < w.heap.size
section
variable {w0 w W W' : World} {g : Nat} {a : Option Addr} {cap : Nat} {bs : List Int} {R : Nat} {cs : Array Value} {ty : TypeId} {at' at2 : Nat}
theorem GK.next (h : GK w0 w g a cap bs R cs ty at' W) (hs : Src w0 W' g a cap bs at2) (hg : W.grownBy W' (some g)) : GK w0 w g a cap bs R cs ty at2 W' :=
  have h3 := h.lg; have h4 := h.lr
  ⟨h.r.kept hg (by simp; omega), hs, grown_same h.k hg, h4, h3⟩
theorem GK.later (h : GK w0 w g a cap bs R cs ty at' W) (hb : Below W.heap.size W W') : GK w0 w g a cap bs R cs ty at' W' := h.next (src_grown (row := none) h.src (grown_below hb) (fun _ e => by cases e)) (grown_below hb)
theorem GK.alloc (h : GK w0 w g a cap bs R cs ty at' W) (o : Obj) : GK w0 w g a cap bs R cs ty at' (W.alloc o) := h.later (bmore (Below.refl _ _) o)
theorem GK.new (h : Src w0 w g a cap bs at') (cs : Array Value) (ty : TypeId) : GK w0 w g a cap bs w.heap.size cs ty at' (w.alloc (.cells cs ty)) :=
  have hb := bmore (Below.refl _ w) (.cells cs ty)
  ⟨Blk.new _ _ _, src_grown (row := none) h (grown_below hb) (fun _ e => by cases e), grown_below hb, Nat.le_refl _, src_lt h⟩
theorem grown_row (W : World) (R : Nat) (vs : Array Value) : W.grownBy (W.setRow R vs) (some R) := ⟨rfl, rfl, rfl, by simp [World.setRow], fun k _ hne => setRow_other W R k _ (fun e => hne (by rw [e]))⟩
/-- The answer is laid into its block. -/
theorem GK.lay (h : GK w0 w g a cap bs R cs ty at' W) (vs : Array Value) : Src w0 (W.setRow R vs) g a cap bs at' ∧ w.grownBy (W.setRow R vs) (some g) ∧ (W.setRow R vs).heap[R]? = some (.cells vs ty (0, 0)) := by
  have hg := grown_row W R vs
  have h3 := h.lg; have h4 := h.lr; have h0 := h.src.1
  exact ⟨src_grown h.src hg (fun j e => by cases e; omega), DrwH.far_k h.k h4 hg, setRow_heap W R cs vs ty (0, 0) h.r⟩
end
set_option maxRecDepth 100000 in
set_option maxHeartbeats 4000000 in
theorem l20Start_calls (w0 w : World) (g : Nat) (a : Option Addr) (cap : Nat) (bs : List Int) (at' : Nat) (h : Src w0 w g a cap bs at') (hat : at' ≤ 20000) :
    Calls Tryd.prog 40 #[.pointer (some ⟨g, 0, none⟩)] w fun e w' => ∃ s b r wt a1 n1 c1 a2 n2 c2 a3 n3 c3 a4 n4 c4 a5 n5 c5, e = .returned (.agg #[.int .i64 s, .int .i64 b, .int .i64 r, .int .i64 0, .int .i64 s, .slice a1 n1 c1, .slice a2 n2 c2, .bool false, .int .i64 0, .int .i64 0, .slice none 0 0, .bool false, .int .i64 0, .int .i64 0, .slice none 0 0, .int .i64 0, .int .i64 0, .int .i64 s, .int .i64 0, .slice none 0 0, .bool false, .int .i64 0, .int .i64 0, .slice none 0 0, .bool false, .int .i64 0, .int .i64 0, .slice none 0 0, .int .i64 s, .slice a3 n3 c3, .slice a4 n4 c4, .slice a5 n5 c5, .int .i64 0, .int .i64 (-1), .slice none 0 0, .int .i64 0, .int .i64 wt, .slice none 0 0, .slice none 0 0]) ∧ szF s = 0 ∧ Src w0 w' g a cap bs (at' + 4) ∧ w.grownBy w' (some g) := by
  have HK0 := hid (GK.new h #[.int .i64 0, .int .i64 0, .int .i64 0, .int .i64 0, .int .i64 0, .slice none 0 0, .slice none 0 0, .bool false, .int .i64 0, .int .i64 0, .slice none 0 0, .bool false, .int .i64 0, .int .i64 0, .slice none 0 0, .int .i64 0, .int .i64 0, .int .i64 0, .int .i64 0, .slice none 0 0, .bool false, .int .i64 0, .int .i64 0, .slice none 0 0, .bool false, .int .i64 0, .int .i64 0, .slice none 0 0, .int .i64 0, .slice none 0 0, .slice none 0 0, .slice none 0 0, .int .i64 0, .int .i64 0, .slice none 0 0, .int .i64 0, .int .i64 0, .slice none 0 0, .slice none 0 0] 87)
  clear h
  go_enter Tryd.func40, Tryd.ntmps40
  go_wp2_with fail
  refine (l1Size_calls w0 _ g a cap bs _ HK0.out.src (by omega)).mono ?_
  rintro e w1 ⟨s, rfl, hz, hs1, hg1⟩
  have HK1 := hid (HK0.out.next hs1 hg1)
  have Hz := hid hz
  clear hs1 hg1 HK0 hz
  go_wp2_with fail
  refine (l1Pick_lit w0 _ g a cap bs _ 4 2 [24, 30, 40, 160] _ HK1.out.src (by omega) rfl rfl (by omega) (by omega)).mono ?_
  rintro e w2 ⟨b, rfl, _, hs2, hg2⟩
  have HK2 := hid ((HK1.out.alloc (.cells #[.int .i64 24, .int .i64 30, .int .i64 40, .int .i64 160] 2)).next hs2 hg2)
  clear hs2 hg2 HK1
  go_wp2_with fail
  refine (l1Pick_lit w0 _ g a cap bs _ 5 2 [1, 2, 3, 5, 50] _ HK2.out.src (by omega) rfl rfl (by omega) (by omega)).mono ?_
  rintro e w3 ⟨r, rfl, _, hs3, hg3⟩
  have HK3 := hid ((HK2.out.alloc (.cells #[.int .i64 1, .int .i64 2, .int .i64 3, .int .i64 5, .int .i64 50] 2)).next hs3 hg3)
  clear hs3 hg3 HK2
  go_wp2_with fail
  refine (l1Pick_lit w0 _ g a cap bs _ 5 2 [0, 1, 1, 2, 6] _ HK3.out.src (by omega) rfl rfl (by omega) (by omega)).mono ?_
  rintro e w4 ⟨wt, rfl, _, hs4, hg4⟩
  have HK4 := hid ((HK3.out.alloc (.cells #[.int .i64 0, .int .i64 1, .int .i64 1, .int .i64 2, .int .i64 6] 2)).next hs4 hg4)
  clear hs4 hg4 HK3
  go_wp2_with fail
  refine (l20New_calls s b r wt _ Hz.out).mono ?_
  rintro e w5 ⟨a1, n1, c1, a2, n2, c2, a3, n3, c3, a4, n4, c4, a5, n5, c5, rfl, hb5⟩
  have HK5 := hid (HK4.out.later hb5)
  have HL := hid (HK5.out.lay #[.int .i64 s, .int .i64 b, .int .i64 r, .int .i64 0, .int .i64 s, .slice a1 n1 c1, .slice a2 n2 c2, .bool false, .int .i64 0, .int .i64 0, .slice none 0 0, .bool false, .int .i64 0, .int .i64 0, .slice none 0 0, .int .i64 0, .int .i64 0, .int .i64 s, .int .i64 0, .slice none 0 0, .bool false, .int .i64 0, .int .i64 0, .slice none 0 0, .bool false, .int .i64 0, .int .i64 0, .slice none 0 0, .int .i64 s, .slice a3 n3 c3, .slice a4 n4 c4, .slice a5 n5 c5, .int .i64 0, .int .i64 (-1), .slice none 0 0, .int .i64 0, .int .i64 wt, .slice none 0 0, .slice none 0 0])
  have HB := hid HK5.out.r
  clear hb5 HK4 HK5
  go_wp2_with (refine wpList_store_row rfl 87 _ _ rfl w.heap.size #[.int .i64 s, .int .i64 b, .int .i64 r, .int .i64 0, .int .i64 s, .slice a1 n1 c1, .slice a2 n2 c2, .bool false, .int .i64 0, .int .i64 0, .slice none 0 0, .bool false, .int .i64 0, .int .i64 0, .slice none 0 0, .int .i64 0, .int .i64 0, .int .i64 s, .int .i64 0, .slice none 0 0, .bool false, .int .i64 0, .int .i64 0, .slice none 0 0, .bool false, .int .i64 0, .int .i64 0, .slice none 0 0, .int .i64 s, .slice a3 n3 c3, .slice a4 n4 c4, .slice a5 n5 c5, .int .i64 0, .int .i64 (-1), .slice none 0 0, .int .i64 0, .int .i64 wt, .slice none 0 0, .slice none 0 0] rfl rfl 87 _ HB.out szSession rfl (by simp [Value.oneCell']) ?_)
  exact bodyPost_ret (v := .agg #[.int .i64 s, .int .i64 b, .int .i64 r, .int .i64 0, .int .i64 s, .slice a1 n1 c1, .slice a2 n2 c2, .bool false, .int .i64 0, .int .i64 0, .slice none 0 0, .bool false, .int .i64 0, .int .i64 0, .slice none 0 0, .int .i64 0, .int .i64 0, .int .i64 s, .int .i64 0, .slice none 0 0, .bool false, .int .i64 0, .int .i64 0, .slice none 0 0, .bool false, .int .i64 0, .int .i64 0, .slice none 0 0, .int .i64 s, .slice a3 n3 c3, .slice a4 n4 c4, .slice a5 n5 c5, .int .i64 0, .int .i64 (-1), .slice none 0 0, .int .i64 0, .int .i64 wt, .slice none 0 0, .slice none 0 0]) (results_cell_row rfl _ _ w.heap.size 87 #[.int .i64 s, .int .i64 b, .int .i64 r, .int .i64 0, .int .i64 s, .slice a1 n1 c1, .slice a2 n2 c2, .bool false, .int .i64 0, .int .i64 0, .slice none 0 0, .bool false, .int .i64 0, .int .i64 0, .slice none 0 0, .int .i64 0, .int .i64 0, .int .i64 s, .int .i64 0, .slice none 0 0, .bool false, .int .i64 0, .int .i64 0, .slice none 0 0, .bool false, .int .i64 0, .int .i64 0, .slice none 0 0, .int .i64 s, .slice a3 n3 c3, .slice a4 n4 c4, .slice a5 n5 c5, .int .i64 0, .int .i64 (-1), .slice none 0 0, .int .i64 0, .int .i64 wt, .slice none 0 0, .slice none 0 0] (0, 0) _ rfl HL.out.2.2 Tryd.underlying87 rfl szSession) rfl ⟨_, _, _, _, _, _, _, _, _, _, _, _, _, _, _, _, _, _, _, rfl, Hz.out, HL.out.1, HL.out.2.1⟩
theorem szStep : (Tryd.prog.info? 46).map (·.size) = some 13 := by kernel_rfl
set_option maxRecDepth 100000 in
set_option maxHeartbeats 4000000 in
theorem l20Step_calls (w0 w : World) (g : Nat) (a : Option Addr) (cap : Nat) (bs : List Int) (at' : Nat) (n : Nat) (calm : Int) (h : Src w0 w g a cap bs at') (hat : at' ≤ 9000) (hn : n ≤ 20) :
    Calls Tryd.prog 77 #[.pointer (some ⟨g, 0, none⟩), .int .i64 (n : Int), .int .i64 calm] w fun e w' => ∃ gl cl ys x1 x2 x3 x4 x5 x6 x7 x8 x9 x10 x11 x12 at2, e = .returned (.agg #[.slice (some ⟨gl, 0, none⟩) n cl, .int .i64 x1, .int .i64 x2, .int .i64 x3, .int .i64 x4, .int .i64 x5, .int .i64 x6, .int .i64 x7, .int .i64 x8, .int .i64 x9, .int .i64 x10, .int .i64 x11, .int .i64 x12]) ∧ OwI w.heap.size w' (.slice (some ⟨gl, 0, none⟩) n cl) ys ∧ ys.length = n ∧ (∀ y ∈ ys, -32768 ≤ y ∧ y ≤ 32767) ∧ at2 ≤ at' + 60 ∧ Src w0 w' g a cap bs at2 ∧ w.grownBy w' (some g) := by
  have HK0 := hid (GK.new h #[.slice none 0 0, .int .i64 0, .int .i64 0, .int .i64 0, .int .i64 0, .int .i64 0, .int .i64 0, .int .i64 0, .int .i64 0, .int .i64 0, .int .i64 0, .int .i64 0, .int .i64 0] 46)
  have hsz0 : (w.alloc (.cells #[.slice none 0 0, .int .i64 0, .int .i64 0, .int .i64 0, .int .i64 0, .int .i64 0, .int .i64 0, .int .i64 0, .int .i64 0, .int .i64 0, .int .i64 0, .int .i64 0, .int .i64 0] 46)).heap.size = w.heap.size + 1 := World.size_alloc _ _
  clear h
  go_enter Tryd.func77, Tryd.ntmps77
  go_wp2_with fail
  generalize w.alloc (.cells #[.slice none 0 0, .int .i64 0, .int .i64 0, .int .i64 0, .int .i64 0, .int .i64 0, .int .i64 0, .int .i64 0, .int .i64 0, .int .i64 0, .int .i64 0, .int .i64 0, .int .i64 0] 46) = w1 at *
  refine (l1Samples_calls w0 _ g a cap bs _ n HK0.out.src (by omega) hn).mono ?_
  rintro e w2 ⟨gl, cl, ys, at2, rfl, ho2, hn2, hy2, hat2, hs2, hg2⟩
  have ho2' : OwI w1.heap.size w2 (.slice (some ⟨gl, 0, none⟩) ys.length cl) ys := ho2
  have HK2 := hid (HK0.out.next hs2 hg2)
  rw [hn2] at ho2' ⊢
  have HO2 := hid ho2'
  have Hy := hid (And.intro hn2 hy2)
  have Hat := hid hat2
  clear ho2 ho2' hn2 hy2 hat2 hs2 hg2 HK0
  have hgw := HK2.out.lg
  go_wp2_with fail
  refine (l20Fate_calls w0 _ g a cap bs _ calm HK2.out.src (by have := Hat.out; omega)).mono ?_
  rintro e w3 ⟨x1, x2, x3, x4, at3, rfl, hat3, hs3, hg3⟩
  have HK3 := hid (HK2.out.next hs3 hg3)
  have HO3 := hid (HO2.out.kept hg3 (fun j e => by cases e; omega))
  have Hat3 : Hid (at3 ≤ at' + 38) := by show _ ≤ _; have := Hat.out; omega
  clear hat3 hs3 hg3 HK2 HO2 Hat
  go_wp2_with fail
  refine (l20Fate_calls w0 _ g a cap bs _ calm HK3.out.src (by have := Hat3.out; omega)).mono ?_
  rintro e w4 ⟨x5, x6, x7, x8, at4, rfl, hat4, hs4, hg4⟩
  have HK4 := hid (HK3.out.next hs4 hg4)
  have HO4 := hid (HO3.out.kept hg4 (fun j e => by cases e; omega))
  have Hat4 : Hid (at4 ≤ at' + 46) := by show _ ≤ _; have := Hat3.out; omega
  clear hat4 hs4 hg4 HK3 HO3 Hat3
  go_wp2_with fail
  refine (l20Back_calls w0 _ g a cap bs _ HK4.out.src (by have := Hat4.out; omega)).mono ?_
  rintro e w5 ⟨x9, x10, x11, x12, at5, rfl, hat5, hs5, hg5⟩
  have HK5 := hid (HK4.out.next hs5 hg5)
  have HO5 := hid (HO4.out.kept hg5 (fun j e => by cases e; omega))
  have Hat5 : Hid (at5 ≤ at' + 60) := by show _ ≤ _; have := Hat4.out; omega
  have HL := hid (HK5.out.lay #[.slice (some ⟨gl, 0, none⟩) n cl, .int .i64 x1, .int .i64 x2, .int .i64 x3, .int .i64 x4, .int .i64 x5, .int .i64 x6, .int .i64 x7, .int .i64 x8, .int .i64 x9, .int .i64 x10, .int .i64 x11, .int .i64 x12])
  have HO6 := hid ((HO5.out.over (show w.heap.size < w1.heap.size by omega) (grown_row w5 w.heap.size #[.slice (some ⟨gl, 0, none⟩) n cl, .int .i64 x1, .int .i64 x2, .int .i64 x3, .int .i64 x4, .int .i64 x5, .int .i64 x6, .int .i64 x7, .int .i64 x8, .int .i64 x9, .int .i64 x10, .int .i64 x11, .int .i64 x12])).mono (show w.heap.size ≤ w1.heap.size by omega))
  have HB := hid HK5.out.r
  clear hat5 hs5 hg5 HK4 HO4 Hat4 HK5 HO5
  go_wp2_with (refine wpList_store_row rfl 46 _ _ rfl w.heap.size #[.slice (some ⟨gl, 0, none⟩) n cl, .int .i64 x1, .int .i64 x2, .int .i64 x3, .int .i64 x4, .int .i64 x5, .int .i64 x6, .int .i64 x7, .int .i64 x8, .int .i64 x9, .int .i64 x10, .int .i64 x11, .int .i64 x12] rfl rfl 46 _ HB.out szStep rfl (by simp [Value.oneCell']) ?_)
  exact bodyPost_ret (v := .agg #[.slice (some ⟨gl, 0, none⟩) n cl, .int .i64 x1, .int .i64 x2, .int .i64 x3, .int .i64 x4, .int .i64 x5, .int .i64 x6, .int .i64 x7, .int .i64 x8, .int .i64 x9, .int .i64 x10, .int .i64 x11, .int .i64 x12]) (results_cell_row rfl _ _ w.heap.size 46 #[.slice (some ⟨gl, 0, none⟩) n cl, .int .i64 x1, .int .i64 x2, .int .i64 x3, .int .i64 x4, .int .i64 x5, .int .i64 x6, .int .i64 x7, .int .i64 x8, .int .i64 x9, .int .i64 x10, .int .i64 x11, .int .i64 x12] (0, 0) _ rfl HL.out.2.2 Tryd.underlying46 rfl szStep) rfl ⟨_, _, ys, _, _, _, _, _, _, _, _, _, _, _, _, _, rfl, HO6.out, Hy.out.1, Hy.out.2, Hat5.out, HL.out.1, HL.out.2.1⟩
end Go.Proofs.YtgnbailcibhenaaDoor.DrwN

namespace Go.Proofs.YtgnbailcibhenaaDoor.DrwO
open Go.ChangeShapes Go.WideShapes Go.ChangeAt Go.RowKit Go.Proofs.YtgnbailcibhenaaDoor.Num Go.Proofs.YtgnbailcibhenaaDoor.Sli Go.Proofs.YtgnbailcibhenaaDoor.App Go.Proofs.YtgnbailcibhenaaDoor.Samp Go.Proofs.YtgnbailcibhenaaDoor.Blk Go.Proofs.YtgnbailcibhenaaDoor.LapM Go.Proofs.YtgnbailcibhenaaDoor.IntL Go.Proofs.YtgnbailcibhenaaDoor.IntA Go.Proofs.YtgnbailcibhenaaDoor.LapS Go.Proofs.YtgnbailcibhenaaDoor.Src Go.Proofs.YtgnbailcibhenaaDoor.Lists Go.Proofs.YtgnbailcibhenaaDoor.Samples Go.Proofs.YtgnbailcibhenaaDoor.Draws Go.Proofs.YtgnbailcibhenaaDoor.DrwF Go.Proofs.YtgnbailcibhenaaDoor.DrwK Go.Proofs.YtgnbailcibhenaaDoor.DrwM Go.Proofs.YtgnbailcibhenaaDoor.DrwN

/-- A step: its frame's slice, its fates' numbers, its frame's numbers. -/
abbrev St := Value × List Int × List Int
def fl (sts : List St) : List Value := sts.flatMap fun s => s.1 :: s.2.1.map (Value.int .i64)
theorem fl_append (a : List St) (s : St) : fl (a ++ [s]) = fl a ++ (s.1 :: s.2.1.map (Value.int .i64)) := by simp [fl]
/-- The frames lie in blocks of their own. -/
def FrO (base n : Nat) (W : World) (sts : List St) : Prop := ∀ s ∈ sts, (∃ gl cl, s.1 = .slice (some ⟨gl, 0, none⟩) n cl) ∧ OwI base W s.1 s.2.2 ∧ s.2.2.length = n ∧ (∀ y ∈ s.2.2, -32768 ≤ y ∧ y ≤ 32767) ∧ s.2.1.length = 12
theorem FrO.kept {base n : Nat} {W W' : World} {sts : List St} {row : Option Nat} (h : FrO base n W sts) (hg : W.grownBy W' row) (hr : ∀ j, row = some j → j < base) : FrO base n W' sts :=
  fun s hs => ⟨(h s hs).1, (h s hs).2.1.kept hg hr, (h s hs).2.2⟩
theorem ow_far {k : IntKind} {e base g : Nat} {t : TypeId} {w w' : World} {v : Value} {xs : List Int} {cur : Array Value} (h : Ow k e base w v xs) (hB : w.heap[g]? = some (.cells cur t (0, 0))) (hne : t ≠ e) (hg : w.grownBy w' (some g)) : Ow k e base w' v xs := by
  have h' : w.ownsRow base e 1 v xs.length (xs.map (Value.int k)) := h
  rcases h.2 with ⟨rfl, _⟩ | ⟨b, cap, cu, rfl, _, hb, _⟩
  · exact h'.kept hg (Or.inl rfl)
  · refine h'.kept hg (Or.inr ?_)
    intro e1
    have e2 : b = g := by simpa [Value.ownBlock] using e1
    subst e2
    rw [hB] at hb
    cases hb
    exact hne rfl
theorem FrO.far {base n g : Nat} {W W' : World} {sts : List St} {cur : Array Value} {t : TypeId} (h : FrO base n W sts) (hB : W.heap[g]? = some (.cells cur t (0, 0))) (hne : t ≠ 2) (hg : W.grownBy W' (some g)) : FrO base n W' sts :=
  fun s hs => ⟨(h s hs).1, ow_far (h s hs).2.1 hB hne hg, (h s hs).2.2⟩
theorem infoSt : (Tryd.prog.info? 46).map (fun i => (i.zero, i.size, i.bytes)) = some (some (.agg #[.slice none 0 0, .int .i64 0, .int .i64 0, .int .i64 0, .int .i64 0, .int .i64 0, .int .i64 0, .int .i64 0, .int .i64 0, .int .i64 0, .int .i64 0, .int .i64 0, .int .i64 0]), 13, 120) := by kernel_rfl
/-- The source, and the steps that were drawn so far. -/
structure DS (w0 w : World) (g gl cl : Nat) (a : Option Addr) (cap : Nat) (bs : List Int) (at2 n : Nat) (sts : List St) (W : World) : Prop where
  s : Src w0 W g a cap bs at2
  o : W.ownsRow w.heap.size 46 13 (.slice (some ⟨gl, 0, none⟩) sts.length cl) sts.length (fl sts)
  f : FrO w.heap.size n W sts
  k : w.grownBy W (some g)
  lg : g < w.heap.size
section
variable {w0 w W W' : World} {g gl cl : Nat} {a : Option Addr} {cap : Nat} {bs : List Int} {at2 at3 n : Nat} {sts : List St}
theorem DS.next (h : DS w0 w g gl cl a cap bs at2 n sts W) (hs : Src w0 W' g a cap bs at3) (hg : W.grownBy W' (some g)) : DS w0 w g gl cl a cap bs at3 n sts W' :=
  have h3 := h.lg
  ⟨hs, h.o.kept hg (.inr fun e => by
      have := (h.o.lt gl rfl).1
      have : gl = g := by simpa [Value.ownBlock] using e
      omega), h.f.kept hg (fun j e => by cases e; exact h3), grown_same h.k hg, h3⟩
theorem DS.later (h : DS w0 w g gl cl a cap bs at2 n sts W) (hb : Below W.heap.size W W') : DS w0 w g gl cl a cap bs at2 n sts W' :=
  h.next (src_grown (row := none) h.s (grown_below hb) (fun _ e => by cases e)) (grown_below hb)
theorem DS.alloc (h : DS w0 w g gl cl a cap bs at2 n sts W) (o : Obj) : DS w0 w g gl cl a cap bs at2 n sts (W.alloc o) := h.later (bmore (Below.refl _ _) o)
theorem DS.block (h : DS w0 w g gl cl a cap bs at2 n sts W) : w.heap.size ≤ gl ∧ ∃ cur, W.heap[gl]? = some (.cells cur 46 (0, 0)) := by
  rcases h.o.2 with ⟨e, _⟩ | ⟨g1, c1, cur, e, hb, hc, _⟩
  · cases e
  · cases e; exact ⟨hb, cur, hc⟩
end
set_option maxRecDepth 100000 in
set_option maxHeartbeats 4000000 in
theorem l20Steps_calls (w0 w : World) (g : Nat) (a : Option Addr) (cap : Nat) (bs : List Int) (at' : Nat) (n m : Nat) (calm : Int) (h : Src w0 w g a cap bs at') (hat : at' ≤ 1000) (hn : n ≤ 20) (hm : m ≤ 20) :
    Calls Tryd.prog 41 #[.pointer (some ⟨g, 0, none⟩), .int .i64 (n : Int), .int .i64 (m : Int), .int .i64 calm] w fun e w' => ∃ gl cl sts at2, e = .returned (.slice (some ⟨gl, 0, none⟩) sts.length cl) ∧ sts.length = m ∧ at2 ≤ at' + 60 * m ∧ DS w0 w g gl cl a cap bs at2 n sts w' := by
  obtain ⟨i0, hi, hz0, hz1, hz2⟩ := info_parts infoSt
  have hlg := src_lt h
  have HD : Hid (DS w0 w g w.heap.size 0 a cap bs at' n [] (w.alloc (.cells #[] 46))) := ⟨src_alloc h _, ⟨rfl, .inr ⟨w.heap.size, 0, #[], rfl, Nat.le_refl _, World.alloc_heap_new w _, Nat.le_refl _, Nat.zero_le _, rfl, rfl⟩⟩, fun s hs => by simp at hs, grown_below (bmore (Below.refl _ w) _), hlg⟩
  clear h
  go_enter Tryd.func41, Tryd.ntmps41
  go_wp2_with fail
  go_loopw [9, 2] (fun o i wr => ∃ (k gl cl at4 : Nat) (sts : List St), o = .slice (some ⟨gl, 0, none⟩) sts.length cl ∧ i = .int .i64 (k : Int) ∧ k + sts.length = m ∧ at4 ≤ at' + 60 * sts.length ∧ Hid (DS w0 w g gl cl a cap bs at4 n sts wr)) (fun _ i _ => (intOf i).toNat)
  case atStart => exact ⟨m, w.heap.size, 0, at', [], rfl, rfl, by simp, by simp, HD.out⟩
  case round =>
    clear HD
    obtain ⟨k, gl2, cl, at4, sts, rfl, rfl, hk, hat4, hD⟩ := hrel
    by_cases hpos : 0 < k
    · obtain ⟨k', rfl⟩ : ∃ k', k = k' + 1 := ⟨k - 1, by omega⟩
      have e0 : ((k' + 1 : Nat) : Int) - 1 = (k' : Int) := by omega
      go_wp2_with fail
      refine (l20Step_calls w0 _ g a cap bs at4 n calm hD.out.s (by omega) hn).mono ?_
      rintro e w5 ⟨gf, cf, ys, x1, x2, x3, x4, x5, x6, x7, x8, x9, x10, x11, x12, at5, rfl, ho5, hn5, hy5, hat5, hs5, hg5⟩
      have hsz := hD.out.k.size
      have HO := hid (ho5.mono hsz)
      have Hy := hid (And.intro hn5 hy5)
      have HD5 := hid (hD.out.next hs5 hg5)
      clear hs5 hg5 hD ho5 hn5 hy5 hsz
      have hgz := HD5.out.k.size
      go_wp2_with (at_builtin; refine wpList_append_own_at _ rfl _ _ 24 rfl w.heap.size 46 i0 (.agg #[.slice none 0 0, .int .i64 0, .int .i64 0, .int .i64 0, .int .i64 0, .int .i64 0, .int .i64 0, .int .i64 0, .int .i64 0, .int .i64 0, .int .i64 0, .int .i64 0, .int .i64 0]) 13 120 Tryd.underlying24 hi hz0 hz1 hz2 rfl (by decide) (.slice (some ⟨gl2, 0, none⟩) sts.length cl) sts.length (fl sts) rfl (HD5.out.alloc _).o ⟨w5.heap.size, 0, none⟩ 1 1 [.slice (some ⟨gf, 0, none⟩) n cf, .int .i64 x1, .int .i64 x2, .int .i64 x3, .int .i64 x4, .int .i64 x5, .int .i64 x6, .int .i64 x7, .int .i64 x8, .int .i64 x9, .int .i64 x10, .int .i64 x11, .int .i64 x12] rfl rfl ?c1 ?c2 ?c3 ?c4 ?c5 ?_)
      case c1 =>
        intro j u hj
        have hb := Blk.new w5 #[.slice (some ⟨gf, 0, none⟩) n cf, .int .i64 x1, .int .i64 x2, .int .i64 x3, .int .i64 x4, .int .i64 x5, .int .i64 x6, .int .i64 x7, .int .i64 x8, .int .i64 x9, .int .i64 x10, .int .i64 x11, .int .i64 x12] 46
        have := hb.cell j
        rw [Addr.add_lit, Nat.zero_add, this, ← hj]
        simp
      case c2 => simp [Value.oneCell']
      case c3 => rw [show maxLen = 9223372036854775807 by decide]; omega
      case c4 => omega
      case c5 => simp; omega
      intro v6 w6 ho6 hg6 _ _
      obtain ⟨g6, c6, rfl⟩ := ownsRow_succ ho6
      have HD6 : Hid (DS w0 w g g6 c6 a cap bs at5 n (sts ++ [(.slice (some ⟨gf, 0, none⟩) n cf, [x1, x2, x3, x4, x5, x6, x7, x8, x9, x10, x11, x12], ys)]) w6) := by
        have hA := HD5.out.alloc (.cells #[.slice (some ⟨gf, 0, none⟩) n cf, .int .i64 x1, .int .i64 x2, .int .i64 x3, .int .i64 x4, .int .i64 x5, .int .i64 x6, .int .i64 x7, .int .i64 x8, .int .i64 x9, .int .i64 x10, .int .i64 x11, .int .i64 x12] 46)
        have hOA := HO.out.alloc (.cells #[.slice (some ⟨gf, 0, none⟩) n cf, .int .i64 x1, .int .i64 x2, .int .i64 x3, .int .i64 x4, .int .i64 x5, .int .i64 x6, .int .i64 x7, .int .i64 x8, .int .i64 x9, .int .i64 x10, .int .i64 x11, .int .i64 x12] 46)
        obtain ⟨hge, cur, hcur⟩ := hA.block
        have hg6' : World.grownBy _ w6 (some gl2) := hg6
        have h1 := hA.s.1
        have h2 := hA.lg
        refine ⟨src_grown hA.s hg6' (fun j e => by cases e; omega), ?_, ?_, DrwH.far_k hA.k hge hg6', h2⟩
        · rw [List.length_append, fl_append]
          exact ho6
        · intro s hs
          rcases List.mem_append.mp hs with hs | hs
          · exact (hA.f.far hcur (by decide) hg6') s hs
          · obtain rfl := List.mem_singleton.mp hs
            exact ⟨⟨gf, cf, rfl⟩, ow_far hOA hcur (by decide) hg6', Hy.out.1, Hy.out.2, rfl⟩
      have e1 : Hid (Value.slice (some ⟨g6, 0, none⟩) (sts.length + 1) c6 = .slice (some ⟨g6, 0, none⟩) (sts ++ [(Value.slice (some ⟨gf, 0, none⟩) n cf, [x1, x2, x3, x4, x5, x6, x7, x8, x9, x10, x11, x12], ys)]).length c6) := by show _ = _; rw [List.length_append]; rfl
      clear ho6 hg6 HD5 HO Hy
      go_wp2
      go_roundw
      case rel => exact ⟨k', g6, c6, at5, _, e1.out, by go_num, by simp; omega, by simp; omega, HD6.out⟩
      case measure => simp [intOf]
    · obtain rfl : k = 0 := by omega
      go_wp2
      go_ret
      exact ⟨gl2, cl, sts, at4, rfl, by omega, by omega, hD.out⟩
end Go.Proofs.YtgnbailcibhenaaDoor.DrwO
