/- A lap or a synth that comes in is opened: its size and what its lists hold. -/
import Derived.Test.YtnbmilhaohhnjaaGa
import Derived.ProofKit
import Derived.OpenShut
import Derived.ChangeOld
import Derived.ChangeSlices
import Derived.Deep.Strs
import Derived.Lib.SmallJoins
namespace Go.Proofs.Ytnbmilhaohhnjaa.OpnP
open Go.ChangeShapes Go.WideShapes Go.ChangeAt Go.RowKit Go.Proofs.Ytnbmilhaohhnjaa.Num Go.Proofs.Ytnbmilhaohhnjaa.Sli

theorem cells3 (cs : Array Value) (h : cs.size = 3) : ∃ a b c, cs = #[a, b, c] := by
  match cs, h with
  | ⟨[a, b, c]⟩, _ => exact ⟨a, b, c, rfl⟩
/-- A list of int64 inside a struct. -/
theorem open_list {H : Type} {enc : TypeId × Value → H} {W : World} {n : Nat} {v : Value} {y : DataW H × List MemPlace} (e0 : DataW.trod enc Try.prog W 0 (fun _ => true) true n 22 [v] = some y) :
    ∃ (a : Option Addr) (cap : Nat) (xs : List Int), v = .slice a xs.length cap ∧ Sl .i64 W (.slice a xs.length cap) xs ∧ xs.length ≤ maxLen := by
  rcases open_ints Try.underlying22 Try.underlying2 (by kernel_rfl) e0 with ⟨hcs, _⟩ | ⟨ad, l, c, zs, hcs, _, hl, hm, hz, _, hcell, hwz⟩
  · simp only [List.cons.injEq, and_true] at hcs
    subst hcs
    exact ⟨none, 0, [], rfl, ⟨none, 0, rfl, fun h => absurd rfl h⟩, Nat.zero_le _⟩
  · simp only [List.cons.injEq, and_true] at hcs
    subst hcs
    have w0 : (some ad = none ∧ l = 0 ∧ c = 0 ∧ zs = []) ∨ ∃ x, some ad = some x ∧ l ≤ c ∧ c ≤ maxLen ∧ zs.length = c ∧ (∀ i, i < zs.length → W.cell? (x.add i) = some (.int .i64 (zs.getD i 0))) ∧ ∀ n ∈ zs, (Lit.int .i64 n).wf = true :=
      .inr ⟨ad, rfl, hl, hm, by simpa using hz, hcell, hwz⟩
    obtain ⟨hs, hlen⟩ := sl_of_row w0
    refine ⟨some ad, c, zs.take l, by rw [hlen], ?_, by rw [hlen]; omega⟩
    rw [hlen]
    exact hs
/-- A list of int64 that comes in by itself. -/
theorem open_row {H : Type} {enc : TypeId × Value → H} {W : World} {v : Value} {d : DataW H} {p : List MemPlace} (hok : ∃ a len cap, v = .slice a len cap) (h : DataW.Trod enc Try.prog W 0 (fun _ => true) true 22 v d p) :
    ∃ (a : Option Addr) (cap : Nat) (xs : List Int), v = .slice a xs.length cap ∧ Sl .i64 W (.slice a xs.length cap) xs ∧ xs.length ≤ maxLen := by
  obtain ⟨a0, len0, cap0, rfl⟩ := hok
  obtain ⟨fuel, hf⟩ := h
  exact open_list hf
theorem open_lap {H : Type} {enc : TypeId × Value → H} {W : World} {cs : Array Value} {d : DataW H} {p : List MemPlace} (hsz : cs.size = Try.prog.cellsOf 24)
    (h : DataW.Trod enc Try.prog W 0 (fun _ => true) true 24 (.agg cs) d p) :
    ∃ (s : Int) (a1 : Option Addr) (c1 : Nat) (x1 : List Int) (a2 : Option Addr) (c2 : Nat) (x2 : List Int), cs = #[.int .i64 s, .slice a1 x1.length c1, .slice a2 x2.length c2] ∧ Sl .i64 W (.slice a1 x1.length c1) x1 ∧ x1.length ≤ maxLen ∧ Sl .i64 W (.slice a2 x2.length c2) x2 ∧ x2.length ≤ maxLen := by
  obtain ⟨v0, v1, v2, rfl⟩ := cells3 cs (hsz.trans (by kernel_rfl))
  obtain ⟨fuel, hf⟩ := h
  obtain ⟨y0, y1, y2, n, _, _, e0, e1, e2⟩ := Go.Deep.trod_struct3 Try.underlying24 hf
  have k1 : Try.prog.cellsOf 22 = 1 := by kernel_rfl
  have k2 : Try.prog.cellsOf 2 = 1 := by kernel_rfl
  simp only [Value.cells, k1, k2, List.drop_zero, List.take_succ_cons, List.take_zero, List.drop_succ_cons] at e0 e1 e2
  obtain ⟨s, hs, _⟩ := DataW.trod_int Try.underlying2 e0
  simp only [List.cons.injEq, and_true] at hs
  subst hs
  obtain ⟨a1, c1, x1, rfl, s1, m1⟩ := open_list e1
  obtain ⟨a2, c2, x2, rfl, s2, m2⟩ := open_list e2
  exact ⟨s, a1, c1, x1, a2, c2, x2, rfl, s1, m1, s2, m2⟩
theorem open_synth {H : Type} {enc : TypeId × Value → H} {W : World} {cs : Array Value} {d : DataW H} {p : List MemPlace} (hsz : cs.size = Try.prog.cellsOf 32)
    (h : DataW.Trod enc Try.prog W 0 (fun _ => true) true 32 (.agg cs) d p) :
    ∃ (s : Int) (a1 : Option Addr) (c1 : Nat) (x1 : List Int) (a2 : Option Addr) (c2 : Nat) (x2 : List Int), cs = #[.int .i64 s, .slice a1 x1.length c1, .slice a2 x2.length c2] ∧ Sl .i64 W (.slice a1 x1.length c1) x1 ∧ x1.length ≤ maxLen ∧ Sl .i64 W (.slice a2 x2.length c2) x2 ∧ x2.length ≤ maxLen := by
  obtain ⟨v0, v1, v2, rfl⟩ := cells3 cs (hsz.trans (by kernel_rfl))
  obtain ⟨fuel, hf⟩ := h
  obtain ⟨y0, y1, y2, n, _, _, e0, e1, e2⟩ := Go.Deep.trod_struct3 Try.underlying32 hf
  have k1 : Try.prog.cellsOf 22 = 1 := by kernel_rfl
  have k2 : Try.prog.cellsOf 2 = 1 := by kernel_rfl
  simp only [Value.cells, k1, k2, List.drop_zero, List.take_succ_cons, List.take_zero, List.drop_succ_cons] at e0 e1 e2
  obtain ⟨s, hs, _⟩ := DataW.trod_int Try.underlying2 e0
  simp only [List.cons.injEq, and_true] at hs
  subst hs
  obtain ⟨a1, c1, x1, rfl, s1, m1⟩ := open_list e1
  obtain ⟨a2, c2, x2, rfl, s2, m2⟩ := open_list e2
  exact ⟨s, a1, c1, x1, a2, c2, x2, rfl, s1, m1, s2, m2⟩
end Go.Proofs.Ytnbmilhaohhnjaa.OpnP
