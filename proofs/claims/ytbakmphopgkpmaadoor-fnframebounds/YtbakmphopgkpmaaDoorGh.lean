/- The table of turns, as a row lists it, lies in its block cell for cell. Condition: the row's own condition on the variable that it lists. -/
import Derived.Test.YtbakmphopgkpmaaDoorTurI
import Derived.ProofKit
import Derived.OpenShut
import Derived.ChangeOld
import Derived.LaidMore
import Derived.Stop.Joined
import Derived.Lib.LaidTab
import Derived.SevenTiedAt
namespace Go.Proofs.YtbakmphopgkpmaaDoor.Lai
open Go.ChangeShapes Go.WideShapes Go.ChangeAt Go.RowKit Go.Proofs.YtbakmphopgkpmaaDoor.Num Go.Proofs.YtbakmphopgkpmaaDoor.Sli Go.Proofs.YtbakmphopgkpmaaDoor.Blk Go.Proofs.YtbakmphopgkpmaaDoor.TurM Go.Proofs.YtbakmphopgkpmaaDoor.TurI

def laidT : DataW Unit := Rows.laid_loop_example_g00657_impl_turnRows
theorem laidT_eq : laidT = .agg (rowL.map fun r => .agg [.agg [.lit (.int .i64 r.1), .lit (.int .i64 r.2.1)], .agg [.lit (.int .i64 r.2.2.1), .lit (.int .i64 r.2.2.2)]]) := rfl
theorem k1 : Tryd.prog.cellsOf 2 = 1 := by kernel_rfl
theorem kn : Tryd.prog.cellsOf 67 = 1 := by kernel_rfl
theorem k2 : Tryd.prog.cellsOf 131 = 2 := by kernel_rfl
theorem k2' : Tryd.prog.cellsOf 85 = 2 := by kernel_rfl
theorem k4 : Tryd.prog.cellsOf 133 = 4 := by kernel_rfl
theorem k56 : Tryd.prog.cellsOf 134 = 56 := by kernel_rfl
theorem cells4 (cs : List Value) (h : cs.length = 4) : ∃ a b c d, cs = [a, b, c, d] := by
  match cs, h with
  | [a, b, c, d], _ => exact ⟨a, b, c, d, rfl⟩
theorem row_cells {W : World} {cs : List Value} {fuel : Nat} {q : List MemPlace} {s n p u : Int}
    (h : DataW.trod (fun _ => ()) Tryd.prog W 0 (fun _ => true) false fuel 133 cs = some (.agg [.agg [.lit (.int .i64 s), .lit (.int .i64 n)], .agg [.lit (.int .i64 p), .lit (.int .i64 u)]], q)) :
    cs = [.int .i64 s, .int .i64 n, .int .i64 p, .int .i64 u] := by
  obtain ⟨y0, y1, m, e, hl, e0, e1⟩ := trod_struct2 Tryd.underlying133 h
  obtain ⟨a, b, c, d, rfl⟩ := cells4 cs (hl.trans k4)
  obtain ⟨z0, z1, m1, g0, _, f0, f1⟩ := trod_struct2 Tryd.underlying131 e0
  obtain ⟨z2, z3, m2, g1, _, f2, f3⟩ := trod_struct2 Tryd.underlying85 e1
  simp only [k1, kn, k2, k2', List.drop_zero, List.take_succ_cons, List.take_zero, List.drop_succ_cons] at f0 f1 f2 f3
  obtain ⟨v0, h0, q0, _⟩ := DataW.trod_int Tryd.underlying2 f0
  obtain ⟨v1, h1, q1, _⟩ := DataW.trod_int Tryd.underlying2 f1
  obtain ⟨v2, h2, q2, _⟩ := DataW.trod_int Tryd.underlying67 f2
  obtain ⟨v3, h3, q3, _⟩ := DataW.trod_int Tryd.underlying67 f3
  subst q0 q1 q2 q3 g0 g1
  simp at e h0 h1 h2 h3
  obtain ⟨⟨⟨rfl, rfl⟩, rfl, rfl⟩, _⟩ := e
  rw [h0, h1, h2, h3]
theorem list_of_rows {cs : List Value} (hl : cs.length = 56) (h : ∀ k, k < 14 → (cs.drop (k * 4)).take 4 = [Value.int .i64 (rS k), .int .i64 (rN k), .int .i64 (rP k), .int .i64 (rU k)]) : cs = tabC.toList := by
  apply List.ext_getElem?
  intro j
  by_cases hj : j < 56
  · have h1 := h (j / 4) (by omega)
    have e1 : cs[j]? = ((cs.drop (j / 4 * 4)).take 4)[j % 4]? := by
      rw [List.getElem?_take_of_lt (by omega), List.getElem?_drop]
      congr 1; omega
    have e2 : ∀ j : Nat, j < 56 → (rowL.flatMap fun r => [r.1, r.2.1, r.2.2.1, r.2.2.2])[j]? = [rS (j / 4), rN (j / 4), rP (j / 4), rU (j / 4)][j % 4]? := by decide
    have e3 : tabC.toList = (rowL.flatMap fun r => [r.1, r.2.1, r.2.2.1, r.2.2.2]).map (Value.int .i64) := rfl
    have e4 : [Value.int .i64 (rS (j / 4)), .int .i64 (rN (j / 4)), .int .i64 (rP (j / 4)), .int .i64 (rU (j / 4))] = [rS (j / 4), rN (j / 4), rP (j / 4), rU (j / 4)].map (Value.int .i64) := rfl
    rw [e1, h1, e3, e4, List.getElem?_map, List.getElem?_map, e2 j hj]
  · have e3 : tabC.toList.length = 56 := rfl
    rw [List.getElem?_eq_none (by omega), List.getElem?_eq_none (by omega)]
theorem rows_of_laid : ∀ k : Nat, k < 14 → (rowL.map fun r => (DataW.agg [.agg [.lit (.int .i64 r.1), .lit (.int .i64 r.2.1)], .agg [.lit (.int .i64 r.2.2.1), .lit (.int .i64 r.2.2.2)]] : DataW Unit))[k]? = some (.agg [.agg [.lit (.int .i64 (rS k)), .lit (.int .i64 (rN k))], .agg [.lit (.int .i64 (rP k)), .lit (.int .i64 (rU k))]]) := by
  intro k hk
  rcases k with _ | _ | _ | _ | _ | _ | _ | _ | _ | _ | _ | _ | _ | _ | k
  all_goals first | omega | rfl
theorem gTab : Tryd.prog.globalNamed "loop.example/g00657/impl.turnRows" = some 0 := by kernel_rfl
theorem tTab : (Tryd.prog.globals[0]?).map (·.type) = some 134 := by kernel_rfl
theorem of_laid {W : World} (h : laidMetH Tryd.prog [("loop.example/g00657/impl.turnRows", Rows.laid_loop_example_g00657_impl_turnRows)] W) : Tab W := by
  rw [MakeChecks.laidMetH_plain _ _ _ (by kernel_rfl)] at h
  obtain ⟨ps, ⟨g, t, cs, fuel, p, q, hg, ht, hvar, hd, _, hps⟩, _, hcell⟩ := h
  obtain rfl := Option.some.inj (gTab.symm.trans hg)
  obtain rfl := Option.some.inj (tTab.symm.trans ht)
  have hd' : DataW.trod (fun _ => ()) Tryd.prog W 0 (fun _ => true) false fuel 134 cs.toList = some (laidT, p) := hd
  rw [laidT_eq] at hd'
  obtain ⟨xs, m, _, hx, hl, hn, hrow⟩ := DataW.trod_array arrTab hd'
  rw [k56] at hl
  have hxs : xs.map (·.1) = rowL.map fun r => (DataW.agg [.agg [.lit (.int .i64 r.1), .lit (.int .i64 r.2.1)], .agg [.lit (.int .i64 r.2.2.1), .lit (.int .i64 r.2.2.2)]] : DataW Unit) := by
    have := congrArg Prod.fst hx
    simpa using this.symm
  have hcs : cs.toList = tabC.toList := list_of_rows hl (fun k hk => by
    have h1 := hrow k hk
    have h2 := rows_of_laid k hk
    rw [← hxs, List.getElem?_map, Option.map_eq_some_iff] at h2
    obtain ⟨⟨d, r⟩, h3, rfl⟩ := h2
    rw [h3, k4] at h1
    exact row_cells h1)
  have hcs' : cs = tabC := Array.toList_inj.1 hcs
  obtain ⟨⟨c, t', hb⟩, _⟩ := hcell 0 0 (by
    rw [hps]
    have : MemPlace.cell 0 0 ∈ MemPlace.row ⟨0, 0, none⟩ cs.size := by
      unfold MemPlace.row
      rw [List.mem_map]
      exact ⟨0, by rw [List.mem_range, hcs']; decide, rfl⟩
    simp [this])
  unfold World.var? at hvar
  rw [gTab, Option.bind_some, hb] at hvar
  obtain rfl := Option.some.inj hvar
  exact ⟨t', hcs' ▸ hb⟩
end Go.Proofs.YtbakmphopgkpmaaDoor.Lai
