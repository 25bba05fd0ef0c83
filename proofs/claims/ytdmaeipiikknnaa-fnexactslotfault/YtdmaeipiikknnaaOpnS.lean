/- A slot that came in is opened. -/
import Derived.Test.YtdmaeipiikknnaaSli
import Derived.ProofKit
import Derived.OpenShut
import Derived.ChangeOld
import Derived.ChangeSlices
import Derived.Deep.Strs
namespace Go.Proofs.Ytdmaeipiikknnaa.OpnS
open Go.ChangeShapes Go.WideShapes Go.ChangeAt Go.RowKit Go.Proofs.Ytdmaeipiikknnaa.Num Go.Proofs.Ytdmaeipiikknnaa.Sli

theorem cells3 (cs : Array Value) (h : cs.size = 3) : ∃ a b c, cs = #[a, b, c] := by
  match cs, h with
  | ⟨[a, b, c]⟩, _ => exact ⟨a, b, c, rfl⟩
theorem open_slot {H : Type} {enc : TypeId × Value → H} {W : World} {cs : Array Value} {d : DataW H} {p : List MemPlace} (hsz : cs.size = Try.prog.cellsOf 39)
    (h : DataW.Trod enc Try.prog W 0 (fun _ => true) true 39 (.agg cs) d p) :
    ∃ u v x : Int, cs = #[.int .i64 u, .int .i64 v, .int .i64 x] := by
  obtain ⟨c0, c1, c2, rfl⟩ := cells3 cs (hsz.trans (by kernel_rfl))
  obtain ⟨fuel, hf⟩ := h
  obtain ⟨y0, y1, y2, n, _, _, e0, e1, e2⟩ := Go.Deep.trod_struct3 Try.underlying39 hf
  have k2 : Try.prog.cellsOf 2 = 1 := by kernel_rfl
  simp only [Value.cells, k2, List.drop_zero, List.take_succ_cons, List.take_zero, List.drop_succ_cons] at e0 e1 e2
  obtain ⟨u, hu, _⟩ := DataW.trod_int Try.underlying2 e0
  obtain ⟨v, hv, _⟩ := DataW.trod_int Try.underlying2 e1
  obtain ⟨x, hx, _⟩ := DataW.trod_int Try.underlying2 e2
  simp only [List.cons.injEq, and_true] at hu hv hx
  subst hu hv hx
  exact ⟨u, v, x, rfl⟩
end Go.Proofs.Ytdmaeipiikknnaa.OpnS
