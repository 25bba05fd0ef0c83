/- A story that is drawn: a session's numbers, and steps. -/
import Derived.Test.YtgnbailcibhenaaDoorGl
import Derived.Deep.RegionHeld3
import Derived.Deep.CutBlock
import Derived.Deep.DeepCutAuto
namespace Go.Proofs.YtgnbailcibhenaaDoor.DrwQ
open Go.ChangeShapes Go.WideShapes Go.ChangeAt Go.RowKit Go.Proofs.YtgnbailcibhenaaDoor.Num Go.Proofs.YtgnbailcibhenaaDoor.Sli Go.Proofs.YtgnbailcibhenaaDoor.App Go.Proofs.YtgnbailcibhenaaDoor.Samp Go.Proofs.YtgnbailcibhenaaDoor.Blk Go.Proofs.YtgnbailcibhenaaDoor.LapM Go.Proofs.YtgnbailcibhenaaDoor.IntL Go.Proofs.YtgnbailcibhenaaDoor.IntA Go.Proofs.YtgnbailcibhenaaDoor.LapS Go.Proofs.YtgnbailcibhenaaDoor.Src Go.Proofs.YtgnbailcibhenaaDoor.Lists Go.Proofs.YtgnbailcibhenaaDoor.Samples Go.Proofs.YtgnbailcibhenaaDoor.Draws Go.Proofs.YtgnbailcibhenaaDoor.DrwF Go.Proofs.YtgnbailcibhenaaDoor.DrwK Go.Proofs.YtgnbailcibhenaaDoor.DrwM Go.Proofs.YtgnbailcibhenaaDoor.DrwN Go.Proofs.YtgnbailcibhenaaDoor.DrwO

theorem GK.laid {w0 w W : World} {g : Nat} {a : Option Addr} {cap : Nat} {bs : List Int} {R : Nat} {cs : Array Value} {ty : TypeId} {at' : Nat} (h : GK w0 w g a cap bs R cs ty at' W) (vs : Array Value) : GK w0 w g a cap bs R vs ty at' (W.setRow R vs) :=
  ⟨(h.lay vs).2.2, (h.lay vs).1, (h.lay vs).2.1, h.lr, h.lg⟩
theorem GK.drew {w0 w W : World} {g : Nat} {a : Option Addr} {cap : Nat} {bs : List Int} {R : Nat} {cs : Array Value} {ty : TypeId} {at' : Nat} (h : GK w0 w g a cap bs R cs ty at' W) : GK w0 w g a cap bs R cs ty at' W.drew :=
  h.later (Below.drew (Below.refl _ _))
/-- A list of given numbers, in a block above the source. -/
def LB (W : World) (g b : Nat) (ys : List Int) : Prop := Blk W b (ys.map (Value.int .i64)).toArray 2 ∧ g < b
theorem LB.new {w0 w W : World} {g : Nat} {a : Option Addr} {cap : Nat} {bs : List Int} {R : Nat} {cs : Array Value} {ty : TypeId} {at' : Nat} (h : GK w0 w g a cap bs R cs ty at' W) (ys : List Int) (vs : Array Value) (hv : vs = (ys.map (Value.int .i64)).toArray) (b : Nat) (hb : b = W.heap.size) : LB (W.alloc (.cells vs 2)) g b ys := by
  subst hb hv
  exact ⟨Blk.new _ _ _, src_lt h.src⟩
theorem LB.alloc {W : World} {g b : Nat} {ys : List Int} (h : LB W g b ys) (o : Obj) : LB (W.alloc o) g b ys := ⟨h.1.alloc o, h.2⟩
theorem LB.next {W W' : World} {g b : Nat} {ys : List Int} (h : LB W g b ys) (hg : W.grownBy W' (some g)) : LB W' g b ys := ⟨h.1.kept hg (by have := h.2; simp; omega), h.2⟩
theorem l1Pick_lb (w0 W : World) {g b n at' : Nat} {a : Option Addr} {cap : Nat} {bs : List Int} (ys : List Int) (h : Src w0 W g a cap bs at') (hat : at' ≤ 100000) (hb : LB W g b ys) (hn : ys.length = n) (h0 : 0 < n) (h1 : n ≤ 1000) :
    Calls Tryd.prog 42 #[.pointer (some ⟨g, 0, none⟩), .slice (some ⟨b, 0, none⟩) n n] W fun e w' => ∃ r : Int, e = .returned (.int .i64 r) ∧ r ∈ ys ∧ Src w0 w' g a cap bs (at' + 1) ∧ W.grownBy w' (some g) := by
  subst hn
  exact l1Pick_calls w0 W g a cap bs at' b 2 ys h hat (by have := hb.2; omega) hb.1 h0 h1
/-- The steps, and the session's block. -/
structure QS (w : World) (X : Nat) (cs : Array Value) (gl cl n : Nat) (sts : List St) (W : World) : Prop where
  x : Blk W X cs 87
  o : W.ownsRow w.heap.size 46 13 (.slice (some ⟨gl, 0, none⟩) sts.length cl) sts.length (fl sts)
  f : FrO w.heap.size n W sts
  b : Below w.heap.size w W
theorem QS.of {w W0 W3 W : World} {g gl cl : Nat} {a : Option Addr} {cap : Nat} {bs : List Int} {X : Nat} {cs : Array Value} {at' at2 n : Nat} {sts : List St} (h : GK w W0 g a cap bs X cs 87 at' W3) (hd : DS w W3 g gl cl a cap bs at2 n sts W) : QS w X cs gl cl n sts W := by
  have h1 := h.lr
  have h2 := h.lg
  have h3 := h.src.2.1.size
  refine ⟨h.r.kept hd.k (by simp; omega), ?_, fun s hs => ?_, hd.s.2.1⟩
  · exact ⟨hd.o.1, hd.o.2.imp id fun ⟨g, cap, cur, hv, hg, hr⟩ => ⟨g, cap, cur, hv, Nat.le_trans h3 hg, hr⟩⟩
  · obtain ⟨k1, k2, k3⟩ := hd.f s hs
    exact ⟨k1, k2.mono h3, k3⟩
theorem five_nat {z : Int} (h : z ∈ ([3, 6, 9, 12, 16] : List Int)) : ∃ m : Nat, z = (m : Int) ∧ m ≤ 16 := by
  simp at h
  exact ⟨z.toNat, by omega, by omega⟩
theorem sz_nat {s : Int} (h : szF s = 0) : ∃ n : Nat, s = n ∧ (n = 4 ∨ n = 8 ∨ n = 16) := by
  unfold szF at h
  have : s = 4 ∨ s = 8 ∨ s = 16 := by
    by_cases hc : s = 4 ∨ s = 8 ∨ s = 16
    · exact hc
    · rw [if_neg hc] at h; omega
  exact ⟨s.toNat, by omega, by omega⟩
set_option maxRecDepth 100000 in
set_option maxHeartbeats 8000000 in
theorem drawStory_calls (a : Option Addr) (cap : Nat) (bs : List Int) (w : World) (hsl : Sl .u8 w (.slice a bs.length cap) bs) (hbd : ∀ x ∈ bs, 0 ≤ x ∧ x ≤ 255) (hlen : bs.length ≤ 1048576) :
    Calls Tryd.prog 8 #[.slice a bs.length cap, .int .i64 0] w fun e w' => ∃ (b r wt : Int) (n gl cl : Nat) (sts : List St), e = .returned (.tuple #[.int .i64 (n : Int), .int .i64 b, .int .i64 r, .int .i64 wt, .slice (some ⟨gl, 0, none⟩) sts.length cl]) ∧ szF (n : Int) = 0 ∧ sts.length ≤ 16 ∧ w'.ownsRow w.heap.size 46 13 (.slice (some ⟨gl, 0, none⟩) sts.length cl) sts.length (fl sts) ∧ FrO w.heap.size n w' sts ∧ Below w.heap.size w w' := by
  have HS := hid (l1Source_calls a cap bs w w (Below.refl _ _) hsl hbd hlen)
  clear hsl hbd hlen
  go_enter Tryd.func8, Tryd.ntmps8
  go_wp2_with fail
  refine HS.out.mono ?_
  rintro e w1 ⟨g, rfl, hs1, hg1⟩
  have Hs1 := hid hs1
  clear hs1 hg1 HS
  go_wp2_with fail
  refine (l20Start_calls w w1 g a cap bs _ Hs1.out (by omega)).mono ?_
  rintro e w2 ⟨s, b, r, wt, a1, n1, c1, a2, n2, c2, a3, n3, c3, a4, n4, c4, a5, n5, c5, rfl, hz, hs2, hg2⟩
  have HZ := hid hz
  have HK0 := hid (GK.new hs2 #[.int .i64 0, .int .i64 0, .int .i64 0, .int .i64 0, .int .i64 0, .slice none 0 0, .slice none 0 0, .bool false, .int .i64 0, .int .i64 0, .slice none 0 0, .bool false, .int .i64 0, .int .i64 0, .slice none 0 0, .int .i64 0, .int .i64 0, .int .i64 0, .int .i64 0, .slice none 0 0, .bool false, .int .i64 0, .int .i64 0, .slice none 0 0, .bool false, .int .i64 0, .int .i64 0, .slice none 0 0, .int .i64 0, .slice none 0 0, .slice none 0 0, .slice none 0 0, .int .i64 0, .int .i64 0, .slice none 0 0, .int .i64 0, .int .i64 0, .slice none 0 0, .slice none 0 0] 87)
  have HB := hid HK0.out.r
  have HGx : ∃ cs : Array Value, cs[0]? = some (.int .i64 s) ∧ cs[1]? = some (.int .i64 b) ∧ cs[2]? = some (.int .i64 r) ∧ cs[36]? = some (.int .i64 wt) ∧ Hid (GK w w2 g a cap bs w2.heap.size cs 87 (0 + 4) ((w2.alloc (.cells #[.int .i64 0, .int .i64 0, .int .i64 0, .int .i64 0, .int .i64 0, .slice none 0 0, .slice none 0 0, .bool false, .int .i64 0, .int .i64 0, .slice none 0 0, .bool false, .int .i64 0, .int .i64 0, .slice none 0 0, .int .i64 0, .int .i64 0, .int .i64 0, .int .i64 0, .slice none 0 0, .bool false, .int .i64 0, .int .i64 0, .slice none 0 0, .bool false, .int .i64 0, .int .i64 0, .slice none 0 0, .int .i64 0, .slice none 0 0, .slice none 0 0, .slice none 0 0, .int .i64 0, .int .i64 0, .slice none 0 0, .int .i64 0, .int .i64 0, .slice none 0 0, .slice none 0 0] 87)).setRow w2.heap.size #[.int .i64 s, .int .i64 b, .int .i64 r, .int .i64 0, .int .i64 s, .slice a1 n1 c1, .slice a2 n2 c2, .bool false, .int .i64 0, .int .i64 0, .slice none 0 0, .bool false, .int .i64 0, .int .i64 0, .slice none 0 0, .int .i64 0, .int .i64 0, .int .i64 s, .int .i64 0, .slice none 0 0, .bool false, .int .i64 0, .int .i64 0, .slice none 0 0, .bool false, .int .i64 0, .int .i64 0, .slice none 0 0, .int .i64 s, .slice a3 n3 c3, .slice a4 n4 c4, .slice a5 n5 c5, .int .i64 0, .int .i64 (-1), .slice none 0 0, .int .i64 0, .int .i64 wt, .slice none 0 0, .slice none 0 0])) := ⟨_, rfl, rfl, rfl, rfl, GK.laid HK0.out _⟩
  clear hz hs2 hg2 Hs1 HK0
  go_upto_region 3 with (refine wpList_store_row rfl 87 _ _ rfl w2.heap.size #[.int .i64 s, .int .i64 b, .int .i64 r, .int .i64 0, .int .i64 s, .slice a1 n1 c1, .slice a2 n2 c2, .bool false, .int .i64 0, .int .i64 0, .slice none 0 0, .bool false, .int .i64 0, .int .i64 0, .slice none 0 0, .int .i64 0, .int .i64 0, .int .i64 s, .int .i64 0, .slice none 0 0, .bool false, .int .i64 0, .int .i64 0, .slice none 0 0, .bool false, .int .i64 0, .int .i64 0, .slice none 0 0, .int .i64 s, .slice a3 n3 c3, .slice a4 n4 c4, .slice a5 n5 c5, .int .i64 0, .int .i64 (-1), .slice none 0 0, .int .i64 0, .int .i64 wt, .slice none 0 0, .slice none 0 0] rfl rfl 87 _ HB.out szSession rfl (by simp [Value.oneCell']) ?_)
  clear HB
  dsimp only [Act.put]
  generalize Value.agg #[.int .i64 s, .int .i64 b, .int .i64 r, .int .i64 0, .int .i64 s, .slice a1 n1 c1, .slice a2 n2 c2, .bool false, .int .i64 0, .int .i64 0, .slice none 0 0, .bool false, .int .i64 0, .int .i64 0, .slice none 0 0, .int .i64 0, .int .i64 0, .int .i64 s, .int .i64 0, .slice none 0 0, .bool false, .int .i64 0, .int .i64 0, .slice none 0 0, .bool false, .int .i64 0, .int .i64 0, .slice none 0 0, .int .i64 s, .slice a3 n3 c3, .slice a4 n4 c4, .slice a5 n5 c5, .int .i64 0, .int .i64 (-1), .slice none 0 0, .int .i64 0, .int .i64 wt, .slice none 0 0, .slice none 0 0] = av at *
  obtain ⟨cs, hc0, hc1, hc2, hc36, HG⟩ := HGx
  generalize World.setRow _ _ _ = wc at *
  generalize w2.heap.size = X at *
  obtain ⟨n, rfl, hn⟩ := sz_nat HZ.out
  have Hc := hid (And.intro hc0 (And.intro hc1 (And.intro hc2 hc36)))
  clear hc0 hc1 hc2 hc36
  go_cut [11] from 17 to 27 (fun v wq => ∃ (gl cl : Nat) (sts : List St), v = .slice (some ⟨gl, 0, none⟩) sts.length cl ∧ sts.length ≤ 16 ∧ Hid (QS w X cs gl cl n sts wq))
  case first =>
    have hS0 : wc.drew.cell? ⟨X, 0, none⟩ = some (.int .i64 (n : Int)) := (GK.r HG.out).cell 0 |>.trans Hc.out.1
    have HG := hid (GK.drew HG.out)
    refine wp_region_noPanic ?_
    refine wp_region_held_drew (S := fun V => V.cell? ⟨X, 0, none⟩ = some (.int .i64 (n : Int))) (by kernel_rfl) (by exact hS0) (fun hHeld => ?_)
    (refine wpAnyH_take (i := 0) (v := ?_) rfl (by kernel_rfl) (by kernel_rfl) (by kernel_rfl) (fun _ _ _ h => h) (Or.inl ⟨by rfl, ?_⟩) hHeld ?_; rotate_left; (intro w hSw; (have s0 := hSw); (go_simp <;> with_reducible rfl)); simp only [List.getElem_toArray, List.getElem_cons_zero, Act.put, List.setIfInBounds_toArray, List.set_cons_zero, List.set_cons_succ])
    (refine wpAnyH_take (i := 1) (v := ?_) rfl (by kernel_rfl) (by kernel_rfl) (by kernel_rfl) (fun _ _ _ h => h) (Or.inl ⟨by rfl, ?_⟩) hHeld ?_; rotate_left; (intro w hSw; (have s0 := hSw); (go_simp <;> with_reducible rfl)); simp only [List.getElem_toArray, List.getElem_cons_zero, List.getElem_cons_succ, Act.put, List.setIfInBounds_toArray, List.set_cons_zero, List.set_cons_succ])
    (refine wpAnyH_take (i := 2) (v := ?_) rfl (by kernel_rfl) (by kernel_rfl) (by kernel_rfl) (fun _ _ _ h => h) (Or.inl ⟨by rfl, ?_⟩) hHeld ?_; rotate_left; (intro w hSw; (have s0 := hSw); (go_simp <;> with_reducible rfl)); simp only [List.getElem_toArray, List.getElem_cons_zero, List.getElem_cons_succ, Act.put, List.setIfInBounds_toArray, List.set_cons_zero, List.set_cons_succ])
    (refine wpAnyH_take (i := 3) (v := ?_) rfl (by kernel_rfl) (by kernel_rfl) (by kernel_rfl) (fun _ _ _ h => h) (Or.inl ⟨by rfl, ?_⟩) hHeld ?_; rotate_left; (intro w hSw; (have s0 := hSw); (go_simp <;> with_reducible rfl)); simp only [List.getElem_toArray, List.getElem_cons_zero, List.getElem_cons_succ, Act.put, List.setIfInBounds_toArray, List.set_cons_zero, List.set_cons_succ])
    (refine wpAnyH_take (i := 4) (v := ?_) rfl (by kernel_rfl) (by kernel_rfl) (by kernel_rfl) (fun _ _ _ h => h) (Or.inl ⟨by rfl, ?_⟩) hHeld ?_; rotate_left; (intro w hSw; (have s0 := hSw); (go_simp <;> with_reducible rfl)); simp only [List.getElem_toArray, List.getElem_cons_zero, List.getElem_cons_succ, Act.put, List.setIfInBounds_toArray, List.set_cons_zero, List.set_cons_succ])
    (refine wpAnyH_take (i := 7) (v := ?_) rfl (by kernel_rfl) (by kernel_rfl) (by kernel_rfl) (fun _ _ _ h => h) (Or.inl ⟨by rfl, ?_⟩) hHeld ?_; rotate_left; (intro w hSw; (have s0 := hSw); (go_simp <;> with_reducible rfl)); simp only [List.getElem_toArray, List.getElem_cons_zero, List.getElem_cons_succ, Act.put, List.setIfInBounds_toArray, List.set_cons_zero, List.set_cons_succ])
    refine wpAnyH_ready (rs := [5, 8]) (by kernel_rfl) (by simp) ?_
    refine (AllReadyH.cons rfl (fun K hK => ?_) (AllReadyH.cons rfl (fun K hK => ?_) AllReadyH.nil))
    · go_simp
      (have hb1 := hid (LB.new HG.out [3, 6, 9, 12, 16] #[.int .i64 3, .int .i64 6, .int .i64 9, .int .i64 12, .int .i64 16] rfl wc.heap.size rfl); have HG := hid (GK.alloc HG.out (.cells #[.int .i64 3, .int .i64 6, .int .i64 9, .int .i64 12, .int .i64 16] 2)); have hS0 := (GK.r HG.out).cell 0 |>.trans Hc.out.1)
      refine hK.out _ _ (by exact hS0) (fun hHeld => ?_)
      clear hK K
      try simp only [List.getElem_toArray, List.getElem_cons_zero, List.getElem_cons_succ, Act.put, List.setIfInBounds_toArray, List.set_cons_zero, List.set_cons_succ]
      refine wpAnyH_ready (rs := [6, 8]) (by kernel_rfl) (by simp) ?_
      refine (AllReadyH.cons rfl (fun K hK => ?_) (AllReadyH.cons rfl (fun K hK => ?_) AllReadyH.nil))
      · go_simp
        (refine (l1Pick_lb w _ [3, 6, 9, 12, 16] (GK.src HG.out) (by omega) hb1.out rfl (by decide) (by decide)).mono ?_; rintro e w5 ⟨pm, rfl, hpm, hs5, hg5⟩; have HG := hid (GK.next HG.out hs5 hg5); have hS0 := (GK.r HG.out).cell 0 |>.trans Hc.out.1)
        refine hK.out _ _ (by exact hS0) (fun hHeld => ?_)
        clear hK K
        try dsimp only
        refine wpAnyH_ready (rs := [8]) (by kernel_rfl) (by simp) ?_
        refine (AllReadyH.cons rfl (fun K hK => ?_) AllReadyH.nil)
        go_simp
        (have hb2 := hid (LB.new HG.out [4, 7, 9, 10] #[.int .i64 4, .int .i64 7, .int .i64 9, .int .i64 10] rfl w5.heap.size rfl); have HG := hid (GK.alloc HG.out (.cells #[.int .i64 4, .int .i64 7, .int .i64 9, .int .i64 10] 2)); have hS0 := (GK.r HG.out).cell 0 |>.trans Hc.out.1)
        refine hK.out _ _ (by exact hS0) (fun hHeld => ?_)
        clear hK K
        try simp only [List.getElem_toArray, List.getElem_cons_zero, List.getElem_cons_succ, Act.put, List.setIfInBounds_toArray, List.set_cons_zero, List.set_cons_succ]
        refine wpAnyH_ready (rs := [9]) (by kernel_rfl) (by simp) ?_
        refine (AllReadyH.cons rfl (fun K hK => ?_) AllReadyH.nil)
        go_simp
        (refine (l1Pick_lb w _ [4, 7, 9, 10] (GK.src HG.out) (by omega) hb2.out rfl (by decide) (by decide)).mono ?_; rintro e w6 ⟨pc, rfl, -, hs6, hg6⟩; have HG := hid (GK.next HG.out hs6 hg6); have hS0 := (GK.r HG.out).cell 0 |>.trans Hc.out.1; obtain ⟨mN, rfl, hmN⟩ := five_nat hpm; clear hpm)
        refine hK.out _ _ (by exact hS0) (fun hHeld => ?_)
        clear hK K
        try dsimp only
        refine wpAnyH_ready (rs := [10]) (by kernel_rfl) (by simp) ?_
        refine (AllReadyH.cons rfl (fun K hK => ?_) AllReadyH.nil)
        go_simp
        (refine (l20Steps_calls w _ g a cap bs _ n mN pc (GK.src HG.out) (by omega) (by omega) (by omega)).mono ?_; rintro e w7 ⟨gl, cl, sts, at7, rfl, hl7, -, hd7⟩; have HQ7 := hid (QS.of HG.out hd7); have hS0 := HQ7.out.x.cell 0 |>.trans Hc.out.1)
        refine hK.out _ _ (by exact hS0) (fun hHeld => ?_)
        clear hK K
        try dsimp only
        (refine wpAnyH_take (i := 11) (v := ?_) rfl (by kernel_rfl) (by kernel_rfl) (by kernel_rfl) (fun _ _ _ h => h) (Or.inl ⟨by rfl, ?_⟩) hHeld ?_; rotate_left; (intro w hSw; (have s0 := hSw); (go_simp <;> with_reducible rfl)); simp only [List.getElem_toArray, List.getElem_cons_zero, List.getElem_cons_succ, Act.put, List.setIfInBounds_toArray, List.set_cons_zero, List.set_cons_succ])
        refine wpAnyH_done (by kernel_rfl) ?_ _
        refine NoPanic.normal ?_
        go_wp2_with fail
        go_meet
        case rel => exact ⟨gl, cl, sts, by rw [hl7], by omega, HQ7⟩
      · go_simp
        (have hb2 := hid (LB.new HG.out [4, 7, 9, 10] #[.int .i64 4, .int .i64 7, .int .i64 9, .int .i64 10] rfl (wc.heap.size + 1) (by rw [World.size_alloc]; rfl)); have hb1 := hid (LB.alloc hb1.out (.cells #[.int .i64 4, .int .i64 7, .int .i64 9, .int .i64 10] 2)); have HG := hid (GK.alloc HG.out (.cells #[.int .i64 4, .int .i64 7, .int .i64 9, .int .i64 10] 2)); have hS0 := (GK.r HG.out).cell 0 |>.trans Hc.out.1)
        refine hK.out _ _ (by exact hS0) (fun hHeld => ?_)
        clear hK K
        try simp only [List.getElem_toArray, List.getElem_cons_zero, List.getElem_cons_succ, Act.put, List.setIfInBounds_toArray, List.set_cons_zero, List.set_cons_succ]
        refine wpAnyH_ready (rs := [6]) (by kernel_rfl) (by simp) ?_
        refine (AllReadyH.cons rfl (fun K hK => ?_) AllReadyH.nil)
        go_simp
        (refine (l1Pick_lb w _ [3, 6, 9, 12, 16] (GK.src HG.out) (by omega) hb1.out rfl (by decide) (by decide)).mono ?_; rintro e w5 ⟨pm, rfl, hpm, hs5, hg5⟩; have hb2 := hid (LB.next hb2.out hg5); have HG := hid (GK.next HG.out hs5 hg5); have hS0 := (GK.r HG.out).cell 0 |>.trans Hc.out.1)
        refine hK.out _ _ (by exact hS0) (fun hHeld => ?_)
        clear hK K
        try dsimp only
        refine wpAnyH_ready (rs := [9]) (by kernel_rfl) (by simp) ?_
        refine (AllReadyH.cons rfl (fun K hK => ?_) AllReadyH.nil)
        go_simp
        (refine (l1Pick_lb w _ [4, 7, 9, 10] (GK.src HG.out) (by omega) hb2.out rfl (by decide) (by decide)).mono ?_; rintro e w6 ⟨pc, rfl, -, hs6, hg6⟩; have HG := hid (GK.next HG.out hs6 hg6); have hS0 := (GK.r HG.out).cell 0 |>.trans Hc.out.1; obtain ⟨mN, rfl, hmN⟩ := five_nat hpm; clear hpm)
        refine hK.out _ _ (by exact hS0) (fun hHeld => ?_)
        clear hK K
        try dsimp only
        refine wpAnyH_ready (rs := [10]) (by kernel_rfl) (by simp) ?_
        refine (AllReadyH.cons rfl (fun K hK => ?_) AllReadyH.nil)
        go_simp
        (refine (l20Steps_calls w _ g a cap bs _ n mN pc (GK.src HG.out) (by omega) (by omega) (by omega)).mono ?_; rintro e w7 ⟨gl, cl, sts, at7, rfl, hl7, -, hd7⟩; have HQ7 := hid (QS.of HG.out hd7); have hS0 := HQ7.out.x.cell 0 |>.trans Hc.out.1)
        refine hK.out _ _ (by exact hS0) (fun hHeld => ?_)
        clear hK K
        try dsimp only
        (refine wpAnyH_take (i := 11) (v := ?_) rfl (by kernel_rfl) (by kernel_rfl) (by kernel_rfl) (fun _ _ _ h => h) (Or.inl ⟨by rfl, ?_⟩) hHeld ?_; rotate_left; (intro w hSw; (have s0 := hSw); (go_simp <;> with_reducible rfl)); simp only [List.getElem_toArray, List.getElem_cons_zero, List.getElem_cons_succ, Act.put, List.setIfInBounds_toArray, List.set_cons_zero, List.set_cons_succ])
        refine wpAnyH_done (by kernel_rfl) ?_ _
        refine NoPanic.normal ?_
        go_wp2_with fail
        go_meet
        case rel => exact ⟨gl, cl, sts, by rw [hl7], by omega, HQ7⟩
    · go_simp
      (have hb2 := hid (LB.new HG.out [4, 7, 9, 10] #[.int .i64 4, .int .i64 7, .int .i64 9, .int .i64 10] rfl wc.heap.size rfl); have HG := hid (GK.alloc HG.out (.cells #[.int .i64 4, .int .i64 7, .int .i64 9, .int .i64 10] 2)); have hS0 := (GK.r HG.out).cell 0 |>.trans Hc.out.1)
      refine hK.out _ _ (by exact hS0) (fun hHeld => ?_)
      clear hK K
      try simp only [List.getElem_toArray, List.getElem_cons_zero, List.getElem_cons_succ, Act.put, List.setIfInBounds_toArray, List.set_cons_zero, List.set_cons_succ]
      refine wpAnyH_ready (rs := [5]) (by kernel_rfl) (by simp) ?_
      refine (AllReadyH.cons rfl (fun K hK => ?_) AllReadyH.nil)
      go_simp
      (have hb1 := hid (LB.new HG.out [3, 6, 9, 12, 16] #[.int .i64 3, .int .i64 6, .int .i64 9, .int .i64 12, .int .i64 16] rfl (wc.heap.size + 1) (by rw [World.size_alloc]; rfl)); have hb2 := hid (LB.alloc hb2.out (.cells #[.int .i64 3, .int .i64 6, .int .i64 9, .int .i64 12, .int .i64 16] 2)); have HG := hid (GK.alloc HG.out (.cells #[.int .i64 3, .int .i64 6, .int .i64 9, .int .i64 12, .int .i64 16] 2)); have hS0 := (GK.r HG.out).cell 0 |>.trans Hc.out.1)
      refine hK.out _ _ (by exact hS0) (fun hHeld => ?_)
      clear hK K
      try simp only [List.getElem_toArray, List.getElem_cons_zero, List.getElem_cons_succ, Act.put, List.setIfInBounds_toArray, List.set_cons_zero, List.set_cons_succ]
      refine wpAnyH_ready (rs := [6]) (by kernel_rfl) (by simp) ?_
      refine (AllReadyH.cons rfl (fun K hK => ?_) AllReadyH.nil)
      go_simp
      (refine (l1Pick_lb w _ [3, 6, 9, 12, 16] (GK.src HG.out) (by omega) hb1.out rfl (by decide) (by decide)).mono ?_; rintro e w5 ⟨pm, rfl, hpm, hs5, hg5⟩; have hb2 := hid (LB.next hb2.out hg5); have HG := hid (GK.next HG.out hs5 hg5); have hS0 := (GK.r HG.out).cell 0 |>.trans Hc.out.1)
      refine hK.out _ _ (by exact hS0) (fun hHeld => ?_)
      clear hK K
      try dsimp only
      refine wpAnyH_ready (rs := [9]) (by kernel_rfl) (by simp) ?_
      refine (AllReadyH.cons rfl (fun K hK => ?_) AllReadyH.nil)
      go_simp
      (refine (l1Pick_lb w _ [4, 7, 9, 10] (GK.src HG.out) (by omega) hb2.out rfl (by decide) (by decide)).mono ?_; rintro e w6 ⟨pc, rfl, -, hs6, hg6⟩; have HG := hid (GK.next HG.out hs6 hg6); have hS0 := (GK.r HG.out).cell 0 |>.trans Hc.out.1; obtain ⟨mN, rfl, hmN⟩ := five_nat hpm; clear hpm)
      refine hK.out _ _ (by exact hS0) (fun hHeld => ?_)
      clear hK K
      try dsimp only
      refine wpAnyH_ready (rs := [10]) (by kernel_rfl) (by simp) ?_
      refine (AllReadyH.cons rfl (fun K hK => ?_) AllReadyH.nil)
      go_simp
      (refine (l20Steps_calls w _ g a cap bs _ n mN pc (GK.src HG.out) (by omega) (by omega) (by omega)).mono ?_; rintro e w7 ⟨gl, cl, sts, at7, rfl, hl7, -, hd7⟩; have HQ7 := hid (QS.of HG.out hd7); have hS0 := HQ7.out.x.cell 0 |>.trans Hc.out.1)
      refine hK.out _ _ (by exact hS0) (fun hHeld => ?_)
      clear hK K
      try dsimp only
      (refine wpAnyH_take (i := 11) (v := ?_) rfl (by kernel_rfl) (by kernel_rfl) (by kernel_rfl) (fun _ _ _ h => h) (Or.inl ⟨by rfl, ?_⟩) hHeld ?_; rotate_left; (intro w hSw; (have s0 := hSw); (go_simp <;> with_reducible rfl)); simp only [List.getElem_toArray, List.getElem_cons_zero, List.getElem_cons_succ, Act.put, List.setIfInBounds_toArray, List.set_cons_zero, List.set_cons_succ])
      refine wpAnyH_done (by kernel_rfl) ?_ _
      refine NoPanic.normal ?_
      go_wp2_with fail
      go_meet
      case rel => exact ⟨gl, cl, sts, by rw [hl7], by omega, HQ7⟩
  case rest =>
    obtain ⟨gl, cl, sts, rfl, hl16, HQ⟩ := hcut
    clear HG hn
    go_wp2
    go_loop [30] (fun i => ∃ k : Nat, i = .int .i64 (k : Int) ∧ k ≤ sts.length) (fun i => sts.length - (intOf i).toNat)
    case atStart => exact ⟨0, rfl, Nat.zero_le _⟩
    case round =>
      obtain ⟨k, rfl, hk⟩ := hrel
      by_cases hlt : k < sts.length
      · have hkI : (k : Int) < (sts.length : Int) := by omega
        go_wp2
        go_round
        case rel => exact ⟨k + 1, by go_num, by omega⟩
        case measure => simp [intOf]; omega
      · obtain rfl : k = sts.length := by omega
        have x0 := HQ.out.x.cell 0 |>.trans Hc.out.1
        have x1 := HQ.out.x.cell 1 |>.trans Hc.out.2.1
        have x2 := HQ.out.x.cell 2 |>.trans Hc.out.2.2.1
        have x3 := HQ.out.x.cell 36 |>.trans Hc.out.2.2.2
        go_wp2
        go_quiet (fail)
        go_wp2
        exact bodyPost_ret (v := .tuple #[.int .i64 (n : Int), .int .i64 b, .int .i64 r, .int .i64 wt, .slice (some ⟨gl, 0, none⟩) sts.length cl]) (by simp [results, Tryd.results8, go_sem]) rfl ⟨b, r, wt, n, gl, cl, sts, rfl, HZ.out, hl16, HQ.out.o, HQ.out.f, below_drewN HQ.out.b _⟩
end Go.Proofs.YtgnbailcibhenaaDoor.DrwQ
