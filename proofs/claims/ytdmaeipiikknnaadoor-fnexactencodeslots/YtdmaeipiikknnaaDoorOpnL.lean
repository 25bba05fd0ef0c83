/- A list of slots that came in is opened. -/
import Derived.Test.YtdmaeipiikknnaaDoorSlS
import Derived.ProofKit
import Derived.OpenShut
import Derived.ChangeOld
import Derived.ChangeSlices
import Derived.Deep.Strs
import Derived.Deep.Slices
namespace Go.Proofs.YtdmaeipiikknnaaDoor.OpnL
open Go.ChangeShapes Go.WideShapes Go.ChangeAt Go.RowKit Go.Proofs.YtdmaeipiikknnaaDoor.Num Go.Proofs.YtdmaeipiikknnaaDoor.Sli Go.Proofs.YtdmaeipiikknnaaDoor.SlS

theorem list3 (cs : List Value) (h : cs.length = 3) : ∃ a b c, cs = [a, b, c] := by
  match cs, h with
  | [a, b, c], _ => exact ⟨a, b, c, rfl⟩
theorem open_one {H : Type} {enc : TypeId × Value → H} {W : World} {n : Nat} {cs : List Value} {y : DataW H × List MemPlace} (hsz : cs.length = 3)
    (hf : DataW.trod enc Tryd.prog W 0 (fun _ => true) true n 73 cs = some y) : ∃ x : Sl3, cs = [.int .i64 x.1, .int .i64 x.2.1, .int .i64 x.2.2] := by
  obtain ⟨c0, c1, c2, rfl⟩ := list3 cs hsz
  obtain ⟨y0, y1, y2, m, _, _, e0, e1, e2⟩ := Go.Deep.trod_struct3 Tryd.underlying73 hf
  have k2 : Tryd.prog.cellsOf 2 = 1 := by kernel_rfl
  simp only [k2, List.drop_zero, List.take_succ_cons, List.take_zero, List.drop_succ_cons] at e0 e1 e2
  obtain ⟨u, hu, _⟩ := DataW.trod_int Tryd.underlying2 e0
  obtain ⟨v, hv, _⟩ := DataW.trod_int Tryd.underlying2 e1
  obtain ⟨x, hx, _⟩ := DataW.trod_int Tryd.underlying2 e2
  simp only [List.cons.injEq, and_true] at hu hv hx
  subst hu hv hx
  exact ⟨(u, v, x), rfl⟩
theorem open_slots {H : Type} {enc : TypeId × Value → H} {W : World} {v : Value} {d : DataW H} {p : List MemPlace} (hok : ∃ a len cap, v = .slice a len cap)
    (h : DataW.Trod enc Tryd.prog W 0 (fun _ => true) true 42 v d p) :
    ∃ (a : Option Addr) (cap : Nat) (ls : List Sl3), v = .slice a ls.length cap ∧ SlS W (.slice a ls.length cap) ls ∧ ls.length ≤ maxLen := by
  obtain ⟨a0, len0, cap0, rfl⟩ := hok
  obtain ⟨fuel, hf⟩ := h
  have k3 : Tryd.prog.cellsOf 73 = 3 := by kernel_rfl
  rcases Go.Deep.open_slice Tryd.underlying42 hf with ⟨hcs, _⟩ | ⟨a, len, cap, m, n, D, Pl, hcs, _, hl, hm, hmm, _, hx⟩
  · simp only [Value.cells, List.cons.injEq, and_true] at hcs
    cases hcs
    exact ⟨none, 0, [], rfl, ⟨none, 0, rfl, fun h => absurd rfl h⟩, Nat.zero_le _⟩
  · simp only [Value.cells, List.cons.injEq, and_true] at hcs
    cases hcs
    rw [k3] at hx
    simp only [if_true] at hmm
    subst hmm
    obtain ⟨f, hfn⟩ := Go.Deep.choose_lt (α := Sl3) (n := m) (p := fun i x => W.cell? ((a.add (i * 3)).add 0) = some (.int .i64 x.1) ∧ W.cell? ((a.add (i * 3)).add 1) = some (.int .i64 x.2.1) ∧ W.cell? ((a.add (i * 3)).add 2) = some (.int .i64 x.2.2)) (fun i hi => by
      obtain ⟨cs', h1, h2⟩ := hx i hi
      obtain ⟨_, hlen, hcell⟩ := World.cells?_some h1
      obtain ⟨x, rfl⟩ := open_one hlen h2
      exact ⟨x, hcell 0 (by omega), hcell 1 (by omega), hcell 2 (by omega)⟩)
    have hll : ((List.range len0).map f).length = len0 := by simp
    refine ⟨some a, m, (List.range len0).map f, by rw [hll], ⟨some a, m, rfl, fun hne => ?_⟩, by rw [hll]; omega⟩
    have hpos : 0 < len0 := by
      rcases Nat.eq_zero_or_pos len0 with h | h
      · subst h; simp at hne
      · exact h
    obtain ⟨b, off, spot⟩ := a
    have hc := (hfn 0 (by omega)).1
    have hspot : spot = none := by
      have := World.cell?_spot hc
      simpa [Addr.add] using this
    subst hspot
    refine ⟨b, off, rfl, ?_, fun i hi => ?_⟩
    · have := lt_of_cell hc; simpa [Addr.add] using this
    · rw [hll] at hi
      have e : ((List.range len0).map f).getD i (0, 0, 0) = f i := by
        rw [List.getD_eq_getElem?_getD, List.getElem?_map, List.getElem?_range hi]; rfl
      rw [e]
      obtain ⟨c1, c2, c3⟩ := hfn i (by omega)
      simp only [Addr.add_lit] at c1 c2 c3
      exact ⟨c1, c2, c3⟩
end Go.Proofs.YtdmaeipiikknnaaDoor.OpnL
