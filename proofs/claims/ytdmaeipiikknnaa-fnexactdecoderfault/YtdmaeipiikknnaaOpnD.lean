/- A decoder that came in is opened. -/
import Derived.Test.YtdmaeipiikknnaaCrcM
import Derived.Test.YtdmaeipiikknnaaSli
import Derived.ProofKit
import Derived.OpenShut
import Derived.ChangeOld
import Derived.ChangeSlices
import Derived.Lib.SmallJoins
namespace Go.Proofs.Ytdmaeipiikknnaa.OpnD
open Go.ChangeShapes Go.WideShapes Go.ChangeAt Go.RowKit Go.Proofs.Ytdmaeipiikknnaa.Num Go.Proofs.Ytdmaeipiikknnaa.Sli Go.Proofs.Ytdmaeipiikknnaa.CrcM

theorem bd_u8 {x : Int} (h : (Lit.int .u8 x).wf = true) : 0 ≤ x ∧ x ≤ 255 := bounds_u8 h
theorem cells4 (cs : Array Value) (h : cs.size = 4) : ∃ a b c d, cs = #[a, b, c, d] := by
  match cs, h with
  | ⟨[a, b, c, d]⟩, _ => exact ⟨a, b, c, d, rfl⟩
theorem open_dec {H : Type} {enc : TypeId × Value → H} {W : World} {cs : Array Value} {d : DataW H} {p : List MemPlace} (hsz : cs.size = Try.prog.cellsOf 42)
    (h : DataW.Trod enc Try.prog W 0 (fun _ => true) true 42 (.agg cs) d p) :
    ∃ (a : Option Addr) (cap : Nat) (xs : List Int) (u v x : Int), cs = #[.slice a xs.length cap, .int .i64 u, .int .i64 v, .int .i64 x] ∧ Sl .u8 W (.slice a xs.length cap) xs ∧ BytesL xs ∧ xs.length ≤ maxLen := by
  obtain ⟨c0, c1, c2, c3, rfl⟩ := cells4 cs (hsz.trans (by kernel_rfl))
  obtain ⟨fuel, hf⟩ := h
  obtain ⟨y0, y1, y2, y3, n, _, _, e0, e1, e2, e3⟩ := Go.Joins.trod_struct4 Try.underlying42 hf
  have k1 : Try.prog.cellsOf 22 = 1 := by kernel_rfl
  have k2 : Try.prog.cellsOf 2 = 1 := by kernel_rfl
  simp only [Value.cells, k1, k2, List.drop_zero, List.take_succ_cons, List.take_zero, List.drop_succ_cons] at e0 e1 e2 e3
  obtain ⟨u, hu, _⟩ := DataW.trod_int Try.underlying2 e1
  obtain ⟨v, hv, _⟩ := DataW.trod_int Try.underlying2 e2
  obtain ⟨x, hx, _⟩ := DataW.trod_int Try.underlying2 e3
  simp only [List.cons.injEq, and_true] at hu hv hx
  subst hu hv hx
  rcases open_ints Try.underlying22 Try.underlying5 (by kernel_rfl) e0 with ⟨hcs, _⟩ | ⟨ad, l, c, zs, hcs, _, hl, hm, hz, _, hcell, hwz⟩
  · simp only [List.cons.injEq, and_true] at hcs
    subst hcs
    exact ⟨none, 0, [], u, v, x, rfl, ⟨none, 0, rfl, fun h => absurd rfl h⟩, fun _ h => (by cases h), Nat.zero_le _⟩
  · simp only [List.cons.injEq, and_true] at hcs
    subst hcs
    have w0 : (some ad = none ∧ l = 0 ∧ c = 0 ∧ zs = []) ∨ ∃ x, some ad = some x ∧ l ≤ c ∧ c ≤ maxLen ∧ zs.length = c ∧ (∀ i, i < zs.length → W.cell? (x.add i) = some (.int .u8 (zs.getD i 0))) ∧ ∀ n ∈ zs, (Lit.int .u8 n).wf = true :=
      .inr ⟨ad, rfl, hl, hm, by simpa using hz, hcell, hwz⟩
    obtain ⟨hs, hlen⟩ := sl_of_row w0
    refine ⟨some ad, c, zs.take l, u, v, x, by rw [hlen], ?_, fun y hy => bd_u8 (hwz y (List.mem_of_mem_take hy)), by rw [hlen]; omega⟩
    rw [hlen]
    exact hs
end Go.Proofs.Ytdmaeipiikknnaa.OpnD
