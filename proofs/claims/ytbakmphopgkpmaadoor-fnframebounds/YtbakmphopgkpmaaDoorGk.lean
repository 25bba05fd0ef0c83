/- The model feeds a frame. Conditions: a right lap and a frame of samples of its size, or any at the face. || The model plays a block. Conditions: a right synth and coefficients of its size. || FeedFrame and PlayBlock of the model: what they return at every argument of lists of at most 1048576 numbers. -/
import Derived.Test.YtbakmphopgkpmaaDoorLapT
import Derived.Test.YtbakmphopgkpmaaDoorGg
namespace Go.Proofs.YtbakmphopgkpmaaDoor.LapU
open Go.ChangeShapes Go.WideShapes Go.ChangeAt Go.RowKit Go.Proofs.YtbakmphopgkpmaaDoor.Num Go.Proofs.YtbakmphopgkpmaaDoor.Sli Go.Proofs.YtbakmphopgkpmaaDoor.App Go.Proofs.YtbakmphopgkpmaaDoor.Div Go.Proofs.YtbakmphopgkpmaaDoor.Samp Go.Proofs.YtbakmphopgkpmaaDoor.SampF Go.Proofs.YtbakmphopgkpmaaDoor.Blk Go.Proofs.YtbakmphopgkpmaaDoor.TurM Go.Proofs.YtbakmphopgkpmaaDoor.HalM Go.Proofs.YtbakmphopgkpmaaDoor.LapM Go.Proofs.YtbakmphopgkpmaaDoor.LapN Go.Proofs.YtbakmphopgkpmaaDoor.IntL Go.Proofs.YtbakmphopgkpmaaDoor.IntA Go.Proofs.YtbakmphopgkpmaaDoor.HalS Go.Proofs.YtbakmphopgkpmaaDoor.SprS Go.Proofs.YtbakmphopgkpmaaDoor.GatS Go.Proofs.YtbakmphopgkpmaaDoor.LapS Go.Proofs.YtbakmphopgkpmaaDoor.LapT

theorem sl_cells {w : World} {b o c m : Nat} {xs : List Int} (hx : xs.length = m) (hb : b < w.heap.size) (hc : ∀ i, i < m → w.cell? ⟨b, o + i, none⟩ = some (.int .i64 (xs.getD i 0))) : Sl .i64 w (.slice (some ⟨b, o, none⟩) m c) xs := by
  subst hx
  exact ⟨_, _, rfl, fun _ => ⟨b, o, rfl, hb, hc⟩⟩
end Go.Proofs.YtbakmphopgkpmaaDoor.LapU

namespace Go.Proofs.YtbakmphopgkpmaaDoor.LapV
open Go.ChangeShapes Go.WideShapes Go.ChangeAt Go.RowKit Go.Proofs.YtbakmphopgkpmaaDoor.Num Go.Proofs.YtbakmphopgkpmaaDoor.Sli Go.Proofs.YtbakmphopgkpmaaDoor.App Go.Proofs.YtbakmphopgkpmaaDoor.Div Go.Proofs.YtbakmphopgkpmaaDoor.Samp Go.Proofs.YtbakmphopgkpmaaDoor.SampF Go.Proofs.YtbakmphopgkpmaaDoor.Blk Go.Proofs.YtbakmphopgkpmaaDoor.TurM Go.Proofs.YtbakmphopgkpmaaDoor.HalM Go.Proofs.YtbakmphopgkpmaaDoor.LapM Go.Proofs.YtbakmphopgkpmaaDoor.LapN Go.Proofs.YtbakmphopgkpmaaDoor.IntL Go.Proofs.YtbakmphopgkpmaaDoor.IntA Go.Proofs.YtbakmphopgkpmaaDoor.HalS Go.Proofs.YtbakmphopgkpmaaDoor.SprS Go.Proofs.YtbakmphopgkpmaaDoor.GatS Go.Proofs.YtbakmphopgkpmaaDoor.LapS Go.Proofs.YtbakmphopgkpmaaDoor.LapT Go.Proofs.YtbakmphopgkpmaaDoor.LapU

/-- A list of numbers is appended. -/
theorem app_list {base : Nat} {W : World} {u : Value} {xs ys : List Int} {b o c m : Nat} (ty : TypeId) (h : OwI base W u xs) (hbase : base ≤ W.heap.size) (hlen : xs.length ≤ 100000) (hy : ys.length = m) (hm : 1 ≤ m ∧ m ≤ 1000)
    (hc : ∀ i, i < m → W.cell? ⟨b, o + i, none⟩ = some (.int .i64 (ys.getD i 0))) :
    ∃ gc cc w1, (Builtin.append_ #[30, 30] ty #[u, .slice (some ⟨b, o, none⟩) m c]).run Tryd.prog W = .ok (.slice (some ⟨gc, 0, none⟩) (xs.length + m) cc) w1 ∧
      OwI base w1 (.slice (some ⟨gc, 0, none⟩) (xs.length + m) cc) (xs ++ ys) ∧ W.grownBy w1 u.ownBlock := by
  obtain ⟨i0, hi, hz0, hz1, hz2⟩ := info_parts infoI
  have h' : W.ownsRow base 2 1 u xs.length (xs.map (Value.int .i64)) := h
  obtain ⟨v', w', hrun, hown, hg, _, hbl⟩ := run_append_own_at W base 30 ty 2 i0 (.int .i64 0) 1 8 Tryd.underlying30 hi hz0 hz1 hz2 rfl (by decide) u xs.length (xs.map (Value.int .i64)) h' ⟨b, o, none⟩ m c (ys.map (Value.int .i64)) (by simp [hy])
    (by
      intro j z hj
      rw [List.getElem?_map] at hj
      rcases hx : ys[j]? with _ | y
      · rw [hx] at hj; cases hj
      · rw [hx] at hj; simp at hj; subst hj
        have hjl : j < ys.length := by rcases Nat.lt_or_ge j ys.length with h1 | h1; exact h1; rw [List.getElem?_eq_none h1] at hx; cases hx
        have hc1 := hc j (by omega)
        rw [show ys.getD j 0 = y by rw [List.getD_eq_getElem?_getD, hx, Option.getD_some]] at hc1
        have e2 : (⟨b, o, none⟩ : Addr).add j = ⟨b, o + j, none⟩ := by
          by_cases hj0 : j = 0
          · subst hj0; simp [Addr.add]
          · simp [Addr.add, hj0]
        rw [e2]; exact hc1) (by intro z hz; simp at hz; obtain ⟨y, _, rfl⟩ := hz; rfl) (by rw [show maxLen = 9223372036854775807 by decide]; omega) (by omega) hbase
  obtain ⟨q, rfl⟩ : ∃ q, m = q + 1 := ⟨m - 1, by omega⟩
  obtain ⟨gc, cc, rfl⟩ := own_succ (n := xs.length + q) hown
  refine ⟨gc, cc, w', hrun, ?_, hg⟩
  show w'.ownsRow base 2 1 _ (xs ++ ys).length ((xs ++ ys).map (Value.int .i64))
  rw [List.length_append, List.map_append, hy]
  exact hown
end Go.Proofs.YtbakmphopgkpmaaDoor.LapV

namespace Go.Proofs.YtbakmphopgkpmaaDoor.LapW
open Go.ChangeShapes Go.WideShapes Go.ChangeAt Go.RowKit Go.Proofs.YtbakmphopgkpmaaDoor.Num Go.Proofs.YtbakmphopgkpmaaDoor.Sli Go.Proofs.YtbakmphopgkpmaaDoor.App Go.Proofs.YtbakmphopgkpmaaDoor.Div Go.Proofs.YtbakmphopgkpmaaDoor.Samp Go.Proofs.YtbakmphopgkpmaaDoor.SampF Go.Proofs.YtbakmphopgkpmaaDoor.Blk Go.Proofs.YtbakmphopgkpmaaDoor.TurM Go.Proofs.YtbakmphopgkpmaaDoor.HalM Go.Proofs.YtbakmphopgkpmaaDoor.LapM Go.Proofs.YtbakmphopgkpmaaDoor.LapN Go.Proofs.YtbakmphopgkpmaaDoor.IntL Go.Proofs.YtbakmphopgkpmaaDoor.IntA Go.Proofs.YtbakmphopgkpmaaDoor.LapS Go.Proofs.YtbakmphopgkpmaaDoor.LapT Go.Proofs.YtbakmphopgkpmaaDoor.LapU Go.Proofs.YtbakmphopgkpmaaDoor.LapV

/-- What FeedFrame tells beside its code. -/
def fdS (s : Int) (half rest fr : List Int) : Int := if fdC s half rest fr = 0 then s else 0
def fdU (s : Int) (half rest fr : List Int) : List Int := if fdC s half rest fr = 0 then fdH s rest fr else []
def fdV (s : Int) (half rest fr : List Int) : List Int := if fdC s half rest fr = 0 then fr.drop (hN s) else []
def fdW (s : Int) (half rest fr : List Int) : List Int := if fdC s half rest fr = 0 then fdK s half rest fr else []
/-- What PlayBlock tells beside its code. -/
def plS (s : Int) (head tail co : List Int) : Int := if plC s head tail co = 0 then s else 0
def plU (s : Int) (head tail co : List Int) : List Int := if plC s head tail co = 0 then plH s tail co else []
def plV (s : Int) (head tail co : List Int) : List Int := if plC s head tail co = 0 then (plB s co).drop (hN s) else []
def plW (s : Int) (head tail co : List Int) : List Int := if plC s head tail co = 0 then head ++ plT s tail co else []
/-- What is kept: the argument's block, the answer's block. -/
structure FS (w : World) (A : Array Value) (t : TypeId) (B : Array Value) (u : TypeId) (W : World) : Prop where
  l : Blk W w.heap.size A t
  r : Blk W (w.heap.size + 1) B u
  b : Below w.heap.size w W
theorem FS.new (w : World) (A : Array Value) (t : TypeId) (B : Array Value) (u : TypeId) : FS w A t B u ((w.alloc (.cells A t)).alloc (.cells B u)) := by
  refine ⟨(Blk.new w A t).alloc _, ?_, bmore (bmore (Below.refl _ _) _) _⟩
  have := Blk.new (w.alloc (.cells A t)) B u
  rwa [World.size_alloc] at this
theorem FS.later {w : World} {A : Array Value} {t : TypeId} {B : Array Value} {u : TypeId} {W W' : World} (h : FS w A t B u W) (hb : Below W.heap.size W W') : FS w A t B u W' := ⟨h.l.later hb, h.r.later hb, bthen h.b hb⟩
theorem below5 {w W : World} (h : Below w.heap.size w W) (x y z u v : Value) : Below w.heap.size w (((((W.setCell ⟨w.heap.size + 1, 0, none⟩ x).setCell ⟨w.heap.size + 1, 1, none⟩ y).setCell ⟨w.heap.size + 1, 2, none⟩ z).setCell ⟨w.heap.size + 1, 3, none⟩ u).setCell ⟨w.heap.size + 1, 4, none⟩ v) :=
  below_cell (below_cell (below_cell (below_cell (below_cell h (by omega) _ _) (by omega) _ _) (by omega) _ _) (by omega) _ _) (by omega) _ _
theorem _root_.Go.Proofs.YtbakmphopgkpmaaDoor.LapS.TW.set5 {base R : Nat} {u t : Value} {S D : List Int} {W : World} (h : TW base u t S D W) (hR : R < base) (x y z v a : Value) : TW R u t S D (((((W.setCell ⟨R, 0, none⟩ x).setCell ⟨R, 1, none⟩ y).setCell ⟨R, 2, none⟩ z).setCell ⟨R, 3, none⟩ v).setCell ⟨R, 4, none⟩ a) := (h.over hR (grown_set5 W R x y z v a)).mono (by omega)
end Go.Proofs.YtbakmphopgkpmaaDoor.LapW
