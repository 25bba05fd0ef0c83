/- Sessions and steps that are drawn. -/
import Derived.Test.YtobmngoodjmdaaaDoorDrwM
namespace Go.Proofs.YtobmngoodjmdaaaDoor.DrwN
open Go.ChangeShapes Go.WideShapes Go.ChangeAt Go.RowKit Go.Proofs.YtobmngoodjmdaaaDoor.Num Go.Proofs.YtobmngoodjmdaaaDoor.Sli Go.Proofs.YtobmngoodjmdaaaDoor.App Go.Proofs.YtobmngoodjmdaaaDoor.Samp Go.Proofs.YtobmngoodjmdaaaDoor.Blk Go.Proofs.YtobmngoodjmdaaaDoor.LapM Go.Proofs.YtobmngoodjmdaaaDoor.IntL Go.Proofs.YtobmngoodjmdaaaDoor.IntA Go.Proofs.YtobmngoodjmdaaaDoor.LapS Go.Proofs.YtobmngoodjmdaaaDoor.Src Go.Proofs.YtobmngoodjmdaaaDoor.Lists Go.Proofs.YtobmngoodjmdaaaDoor.Samples Go.Proofs.YtobmngoodjmdaaaDoor.Draws Go.Proofs.YtobmngoodjmdaaaDoor.DrwF Go.Proofs.YtobmngoodjmdaaaDoor.DrwK Go.Proofs.YtobmngoodjmdaaaDoor.DrwM

/-- What a draw into an answer's block keeps. -/
structure GK (w0 w : World) (g : Nat) (a : Option Addr) (cap : Nat) (bs : List Int) (R : Nat) (cs : Array Value) (ty : TypeId) (at' : Nat) (W : World) : Prop where
  r : Blk W R cs ty
  src : Src w0 W g a cap bs at'
  k : w.grownBy W (some g)
  lr : w.heap.size ≤ R
  lg : g < w.heap.size
section
variable {w0 w W W' : World} {g : Nat} {a : Option Addr} {cap : Nat} {bs : List Int} {R : Nat} {cs : Array Value} {ty : TypeId} {at' at2 : Nat}
theorem GK.next (h : GK w0 w g a cap bs R cs ty at' W) (hs : Src w0 W' g a cap bs at2) (hg : W.grownBy W' (some g)) : GK w0 w g a cap bs R cs ty at2 W' :=
  have h3 := h.lg; have h4 := h.lr
  ⟨h.r.kept hg (by simp; omega), hs, grown_same h.k hg, h4, h3⟩
theorem GK.later (h : GK w0 w g a cap bs R cs ty at' W) (hb : Below W.heap.size W W') : GK w0 w g a cap bs R cs ty at' W' := h.next (src_grown (row := none) h.src (grown_below hb) (fun _ e => by cases e)) (grown_below hb)
theorem GK.alloc (h : GK w0 w g a cap bs R cs ty at' W) (o : Obj) : GK w0 w g a cap bs R cs ty at' (W.alloc o) := h.later (bmore (Below.refl _ _) o)
theorem GK.new (h : Src w0 w g a cap bs at') (cs : Array Value) (ty : TypeId) : GK w0 w g a cap bs w.heap.size cs ty at' (w.alloc (.cells cs ty)) :=
  have hb := bmore (Below.refl _ w) (.cells cs ty)
  ⟨Blk.new _ _ _, src_grown (row := none) h (grown_below hb) (fun _ e => by cases e), grown_below hb, Nat.le_refl _, src_lt h⟩
theorem grown_row (W : World) (R : Nat) (vs : Array Value) : W.grownBy (W.setRow R vs) (some R) := ⟨rfl, rfl, rfl, by simp [World.setRow], fun k _ hne => setRow_other W R k _ (fun e => hne (by rw [e]))⟩
/-- The answer is laid into its block. -/
theorem GK.lay (h : GK w0 w g a cap bs R cs ty at' W) (vs : Array Value) : Src w0 (W.setRow R vs) g a cap bs at' ∧ w.grownBy (W.setRow R vs) (some g) ∧ (W.setRow R vs).heap[R]? = some (.cells vs ty (0, 0)) := by
  have hg := grown_row W R vs
  have h3 := h.lg; have h4 := h.lr; have h0 := h.src.1
  exact ⟨src_grown h.src hg (fun j e => by cases e; omega), DrwH.far_k h.k h4 hg, setRow_heap W R cs vs ty (0, 0) h.r⟩
end
set_option maxRecDepth 100000 in
set_option maxHeartbeats 4000000 in
theorem l20Start_calls (w0 w : World) (g : Nat) (a : Option Addr) (cap : Nat) (bs : List Int) (at' : Nat) (h : Src w0 w g a cap bs at') (hat : at' ≤ 20000) :
    Calls Tryd.prog 40 #[.pointer (some ⟨g, 0, none⟩)] w fun e w' => ∃ s b r wt a1 n1 c1 a2 n2 c2 a3 n3 c3 a4 n4 c4 a5 n5 c5, e = .returned (.agg #[.int .i64 s, .int .i64 b, .int .i64 r, .int .i64 0, .int .i64 s, .slice a1 n1 c1, .slice a2 n2 c2, .bool false, .int .i64 0, .int .i64 0, .slice none 0 0, .bool false, .int .i64 0, .int .i64 0, .slice none 0 0, .int .i64 0, .int .i64 0, .int .i64 s, .int .i64 0, .slice none 0 0, .bool false, .int .i64 0, .int .i64 0, .slice none 0 0, .bool false, .int .i64 0, .int .i64 0, .slice none 0 0, .int .i64 s, .slice a3 n3 c3, .slice a4 n4 c4, .slice a5 n5 c5, .int .i64 0, .int .i64 (-1), .slice none 0 0, .int .i64 0, .int .i64 wt, .slice none 0 0, .slice none 0 0]) ∧ szF s = 0 ∧ Src w0 w' g a cap bs (at' + 4) ∧ w.grownBy w' (some g) := by
  have HK0 := hid (GK.new h #[.int .i64 0, .int .i64 0, .int .i64 0, .int .i64 0, .int .i64 0, .slice none 0 0, .slice none 0 0, .bool false, .int .i64 0, .int .i64 0, .slice none 0 0, .bool false, .int .i64 0, .int .i64 0, .slice none 0 0, .int .i64 0, .int .i64 0, .int .i64 0, .int .i64 0, .slice none 0 0, .bool false, .int .i64 0, .int .i64 0, .slice none 0 0, .bool false, .int .i64 0, .int .i64 0, .slice none 0 0, .int .i64 0, .slice none 0 0, .slice none 0 0, .slice none 0 0, .int .i64 0, .int .i64 0, .slice none 0 0, .int .i64 0, .int .i64 0, .slice none 0 0, .slice none 0 0] 87)
  clear h
  go_enter Tryd.func40, Tryd.ntmps40
  go_wp2_with fail
  refine (l1Size_calls w0 _ g a cap bs _ HK0.out.src (by omega)).mono ?_
  rintro e w1 ⟨s, rfl, hz, hs1, hg1⟩
  have HK1 := hid (HK0.out.next hs1 hg1)
  have Hz := hid hz
  clear hs1 hg1 HK0 hz
  go_wp2_with fail
  refine (l1Pick_lit w0 _ g a cap bs _ 4 2 [24, 30, 40, 160] _ HK1.out.src (by omega) rfl rfl (by omega) (by omega)).mono ?_
  rintro e w2 ⟨b, rfl, _, hs2, hg2⟩
  have HK2 := hid ((HK1.out.alloc (.cells #[.int .i64 24, .int .i64 30, .int .i64 40, .int .i64 160] 2)).next hs2 hg2)
  clear hs2 hg2 HK1
  go_wp2_with fail
  refine (l1Pick_lit w0 _ g a cap bs _ 5 2 [1, 2, 3, 5, 50] _ HK2.out.src (by omega) rfl rfl (by omega) (by omega)).mono ?_
  rintro e w3 ⟨r, rfl, _, hs3, hg3⟩
  have HK3 := hid ((HK2.out.alloc (.cells #[.int .i64 1, .int .i64 2, .int .i64 3, .int .i64 5, .int .i64 50] 2)).next hs3 hg3)
  clear hs3 hg3 HK2
  go_wp2_with fail
  refine (l1Pick_lit w0 _ g a cap bs _ 5 2 [0, 1, 1, 2, 6] _ HK3.out.src (by omega) rfl rfl (by omega) (by omega)).mono ?_
  rintro e w4 ⟨wt, rfl, _, hs4, hg4⟩
  have HK4 := hid ((HK3.out.alloc (.cells #[.int .i64 0, .int .i64 1, .int .i64 1, .int .i64 2, .int .i64 6] 2)).next hs4 hg4)
  clear hs4 hg4 HK3
  go_wp2_with fail
  refine (l20New_calls s b r wt _ Hz.out).mono ?_
  rintro e w5 ⟨a1, n1, c1, a2, n2, c2, a3, n3, c3, a4, n4, c4, a5, n5, c5, rfl, hb5⟩
  have HK5 := hid (HK4.out.later hb5)
  have HL := hid (HK5.out.lay #[.int .i64 s, .int .i64 b, .int .i64 r, .int .i64 0, .int .i64 s, .slice a1 n1 c1, .slice a2 n2 c2, .bool false, .int .i64 0, .int .i64 0, .slice none 0 0, .bool false, .int .i64 0, .int .i64 0, .slice none 0 0, .int .i64 0, .int .i64 0, .int .i64 s, .int .i64 0, .slice none 0 0, .bool false, .int .i64 0, .int .i64 0, .slice none 0 0, .bool false, .int .i64 0, .int .i64 0, .slice none 0 0, .int .i64 s, .slice a3 n3 c3, .slice a4 n4 c4, .slice a5 n5 c5, .int .i64 0, .int .i64 (-1), .slice none 0 0, .int .i64 0, .int .i64 wt, .slice none 0 0, .slice none 0 0])
  have HB := hid HK5.out.r
  clear hb5 HK4 HK5
  go_wp2_with (refine wpList_store_row rfl 87 _ _ rfl w.heap.size #[.int .i64 s, .int .i64 b, .int .i64 r, .int .i64 0, .int .i64 s, .slice a1 n1 c1, .slice a2 n2 c2, .bool false, .int .i64 0, .int .i64 0, .slice none 0 0, .bool false, .int .i64 0, .int .i64 0, .slice none 0 0, .int .i64 0, .int .i64 0, .int .i64 s, .int .i64 0, .slice none 0 0, .bool false, .int .i64 0, .int .i64 0, .slice none 0 0, .bool false, .int .i64 0, .int .i64 0, .slice none 0 0, .int .i64 s, .slice a3 n3 c3, .slice a4 n4 c4, .slice a5 n5 c5, .int .i64 0, .int .i64 (-1), .slice none 0 0, .int .i64 0, .int .i64 wt, .slice none 0 0, .slice none 0 0] rfl rfl 87 _ HB.out szSession rfl (by simp [Value.oneCell']) ?_)
  exact bodyPost_ret (v := .agg #[.int .i64 s, .int .i64 b, .int .i64 r, .int .i64 0, .int .i64 s, .slice a1 n1 c1, .slice a2 n2 c2, .bool false, .int .i64 0, .int .i64 0, .slice none 0 0, .bool false, .int .i64 0, .int .i64 0, .slice none 0 0, .int .i64 0, .int .i64 0, .int .i64 s, .int .i64 0, .slice none 0 0, .bool false, .int .i64 0, .int .i64 0, .slice none 0 0, .bool false, .int .i64 0, .int .i64 0, .slice none 0 0, .int .i64 s, .slice a3 n3 c3, .slice a4 n4 c4, .slice a5 n5 c5, .int .i64 0, .int .i64 (-1), .slice none 0 0, .int .i64 0, .int .i64 wt, .slice none 0 0, .slice none 0 0]) (results_cell_row rfl _ _ w.heap.size 87 #[.int .i64 s, .int .i64 b, .int .i64 r, .int .i64 0, .int .i64 s, .slice a1 n1 c1, .slice a2 n2 c2, .bool false, .int .i64 0, .int .i64 0, .slice none 0 0, .bool false, .int .i64 0, .int .i64 0, .slice none 0 0, .int .i64 0, .int .i64 0, .int .i64 s, .int .i64 0, .slice none 0 0, .bool false, .int .i64 0, .int .i64 0, .slice none 0 0, .bool false, .int .i64 0, .int .i64 0, .slice none 0 0, .int .i64 s, .slice a3 n3 c3, .slice a4 n4 c4, .slice a5 n5 c5, .int .i64 0, .int .i64 (-1), .slice none 0 0, .int .i64 0, .int .i64 wt, .slice none 0 0, .slice none 0 0] (0, 0) _ rfl HL.out.2.2 Tryd.underlying87 rfl szSession) rfl ⟨_, _, _, _, _, _, _, _, _, _, _, _, _, _, _, _, _, _, _, rfl, Hz.out, HL.out.1, HL.out.2.1⟩
theorem szStep : (Tryd.prog.info? 46).map (·.size) = some 13 := by kernel_rfl
set_option maxRecDepth 100000 in
set_option maxHeartbeats 4000000 in
theorem l20Step_calls (w0 w : World) (g : Nat) (a : Option Addr) (cap : Nat) (bs : List Int) (at' : Nat) (n : Nat) (calm : Int) (h : Src w0 w g a cap bs at') (hat : at' ≤ 9000) (hn : n ≤ 20) :
    Calls Tryd.prog 76 #[.pointer (some ⟨g, 0, none⟩), .int .i64 (n : Int), .int .i64 calm] w fun e w' => ∃ gl cl ys x1 x2 x3 x4 x5 x6 x7 x8 x9 x10 x11 x12 at2, e = .returned (.agg #[.slice (some ⟨gl, 0, none⟩) n cl, .int .i64 x1, .int .i64 x2, .int .i64 x3, .int .i64 x4, .int .i64 x5, .int .i64 x6, .int .i64 x7, .int .i64 x8, .int .i64 x9, .int .i64 x10, .int .i64 x11, .int .i64 x12]) ∧ OwI w.heap.size w' (.slice (some ⟨gl, 0, none⟩) n cl) ys ∧ ys.length = n ∧ (∀ y ∈ ys, -32768 ≤ y ∧ y ≤ 32767) ∧ at2 ≤ at' + 60 ∧ Src w0 w' g a cap bs at2 ∧ w.grownBy w' (some g) := by
  have HK0 := hid (GK.new h #[.slice none 0 0, .int .i64 0, .int .i64 0, .int .i64 0, .int .i64 0, .int .i64 0, .int .i64 0, .int .i64 0, .int .i64 0, .int .i64 0, .int .i64 0, .int .i64 0, .int .i64 0] 46)
  have hsz0 : (w.alloc (.cells #[.slice none 0 0, .int .i64 0, .int .i64 0, .int .i64 0, .int .i64 0, .int .i64 0, .int .i64 0, .int .i64 0, .int .i64 0, .int .i64 0, .int .i64 0, .int .i64 0, .int .i64 0] 46)).heap.size = w.heap.size + 1 := World.size_alloc _ _
  clear h
  go_enter Tryd.func76, Tryd.ntmps76
  go_wp2_with fail
  generalize w.alloc (.cells #[.slice none 0 0, .int .i64 0, .int .i64 0, .int .i64 0, .int .i64 0, .int .i64 0, .int .i64 0, .int .i64 0, .int .i64 0, .int .i64 0, .int .i64 0, .int .i64 0, .int .i64 0] 46) = w1 at *
  refine (l1Samples_calls w0 _ g a cap bs _ n HK0.out.src (by omega) hn).mono ?_
  rintro e w2 ⟨gl, cl, ys, at2, rfl, ho2, hn2, hy2, hat2, hs2, hg2⟩
  have ho2' : OwI w1.heap.size w2 (.slice (some ⟨gl, 0, none⟩) ys.length cl) ys := ho2
  have HK2 := hid (HK0.out.next hs2 hg2)
  rw [hn2] at ho2' ⊢
  have HO2 := hid ho2'
  have Hy := hid (And.intro hn2 hy2)
  have Hat := hid hat2
  clear ho2 ho2' hn2 hy2 hat2 hs2 hg2 HK0
  have hgw := HK2.out.lg
  go_wp2_with fail
  refine (l20Fate_calls w0 _ g a cap bs _ calm HK2.out.src (by have := Hat.out; omega)).mono ?_
  rintro e w3 ⟨x1, x2, x3, x4, at3, rfl, hat3, hs3, hg3⟩
  have HK3 := hid (HK2.out.next hs3 hg3)
  have HO3 := hid (HO2.out.kept hg3 (fun j e => by cases e; omega))
  have Hat3 : Hid (at3 ≤ at' + 38) := by show _ ≤ _; have := Hat.out; omega
  clear hat3 hs3 hg3 HK2 HO2 Hat
  go_wp2_with fail
  refine (l20Fate_calls w0 _ g a cap bs _ calm HK3.out.src (by have := Hat3.out; omega)).mono ?_
  rintro e w4 ⟨x5, x6, x7, x8, at4, rfl, hat4, hs4, hg4⟩
  have HK4 := hid (HK3.out.next hs4 hg4)
  have HO4 := hid (HO3.out.kept hg4 (fun j e => by cases e; omega))
  have Hat4 : Hid (at4 ≤ at' + 46) := by show _ ≤ _; have := Hat3.out; omega
  clear hat4 hs4 hg4 HK3 HO3 Hat3
  go_wp2_with fail
  refine (l20Back_calls w0 _ g a cap bs _ HK4.out.src (by have := Hat4.out; omega)).mono ?_
  rintro e w5 ⟨x9, x10, x11, x12, at5, rfl, hat5, hs5, hg5⟩
  have HK5 := hid (HK4.out.next hs5 hg5)
  have HO5 := hid (HO4.out.kept hg5 (fun j e => by cases e; omega))
  have Hat5 : Hid (at5 ≤ at' + 60) := by show _ ≤ _; have := Hat4.out; omega
  have HL := hid (HK5.out.lay #[.slice (some ⟨gl, 0, none⟩) n cl, .int .i64 x1, .int .i64 x2, .int .i64 x3, .int .i64 x4, .int .i64 x5, .int .i64 x6, .int .i64 x7, .int .i64 x8, .int .i64 x9, .int .i64 x10, .int .i64 x11, .int .i64 x12])
  have HO6 := hid ((HO5.out.over (show w.heap.size < w1.heap.size by omega) (grown_row w5 w.heap.size #[.slice (some ⟨gl, 0, none⟩) n cl, .int .i64 x1, .int .i64 x2, .int .i64 x3, .int .i64 x4, .int .i64 x5, .int .i64 x6, .int .i64 x7, .int .i64 x8, .int .i64 x9, .int .i64 x10, .int .i64 x11, .int .i64 x12])).mono (show w.heap.size ≤ w1.heap.size by omega))
  have HB := hid HK5.out.r
  clear hat5 hs5 hg5 HK4 HO4 Hat4 HK5 HO5
  go_wp2_with (refine wpList_store_row rfl 46 _ _ rfl w.heap.size #[.slice (some ⟨gl, 0, none⟩) n cl, .int .i64 x1, .int .i64 x2, .int .i64 x3, .int .i64 x4, .int .i64 x5, .int .i64 x6, .int .i64 x7, .int .i64 x8, .int .i64 x9, .int .i64 x10, .int .i64 x11, .int .i64 x12] rfl rfl 46 _ HB.out szStep rfl (by simp [Value.oneCell']) ?_)
  exact bodyPost_ret (v := .agg #[.slice (some ⟨gl, 0, none⟩) n cl, .int .i64 x1, .int .i64 x2, .int .i64 x3, .int .i64 x4, .int .i64 x5, .int .i64 x6, .int .i64 x7, .int .i64 x8, .int .i64 x9, .int .i64 x10, .int .i64 x11, .int .i64 x12]) (results_cell_row rfl _ _ w.heap.size 46 #[.slice (some ⟨gl, 0, none⟩) n cl, .int .i64 x1, .int .i64 x2, .int .i64 x3, .int .i64 x4, .int .i64 x5, .int .i64 x6, .int .i64 x7, .int .i64 x8, .int .i64 x9, .int .i64 x10, .int .i64 x11, .int .i64 x12] (0, 0) _ rfl HL.out.2.2 Tryd.underlying46 rfl szStep) rfl ⟨_, _, ys, _, _, _, _, _, _, _, _, _, _, _, _, _, rfl, HO6.out, Hy.out.1, Hy.out.2, Hat5.out, HL.out.1, HL.out.2.1⟩
end Go.Proofs.YtobmngoodjmdaaaDoor.DrwN
