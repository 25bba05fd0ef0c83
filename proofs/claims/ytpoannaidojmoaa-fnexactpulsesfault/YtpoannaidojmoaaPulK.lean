/- The program's two walkers: one counts what goes on with smaller numbers, the other one puts pulses by what is left of their number. Conditions: right pulses; a number that there is. -/
import Derived.Test.YtpoannaidojmoaaPulJ
import Derived.Test.YtpoannaidojmoaaBkI
namespace Go.Proofs.Ytpoannaidojmoaa.PulK
open Go.ChangeShapes Go.WideShapes Go.ChangeAt Go.RowKit Go.Maps Go.MapKept Go.Proofs.Ytpoannaidojmoaa.Num Go.Proofs.Ytpoannaidojmoaa.Sli Go.Proofs.Ytpoannaidojmoaa.HalM Go.Proofs.Ytpoannaidojmoaa.PulM Go.Proofs.Ytpoannaidojmoaa.Blk Go.Proofs.Ytpoannaidojmoaa.App Go.Proofs.Ytpoannaidojmoaa.Div Go.Proofs.Ytpoannaidojmoaa.IntL Go.Proofs.Ytpoannaidojmoaa.IntA Go.Proofs.Ytpoannaidojmoaa.BkI Go.Proofs.Ytpoannaidojmoaa.PulH Go.Proofs.Ytpoannaidojmoaa.PulI Go.Proofs.Ytpoannaidojmoaa.PulJ Go.Proofs.Ytpoannaidojmoaa.OwsG

theorem onCell {S : Nat → Prop} (w : World) (b i : Nat) (v : Value) (h : S b) : On S w (w.setCell ⟨b, i, none⟩ v) :=
  (On.of_grown (grown_set w b i v)).more (fun j e => by have := Option.some.inj e; subst this; exact h)
theorem aheadS_yes (b1 b2 p : Nat) (x t : Int) (v : Value) (xs : List Int) (T : TypeId) (W : World) (h : Sl .i64 W v xs) (hp : p < xs.length) (hv : Blk W b1 #[v] T) (hx : xs.getD p 0 = x) :
    Calls Try.prog 52 #[.int .i64 (p : Int), .int .i64 x, .int .i64 t, .pointer (some ⟨b1, 0, none⟩), .pointer (some ⟨b2, 0, none⟩)] W fun e w' => e = .returned (.bool true) ∧ w' = W := by
  obtain ⟨a, cap, rfl, hc⟩ := h
  obtain ⟨b, off, rfl, hlt, hcell⟩ := hc (by intro e; subst e; simp at hp)
  have hce := hcell p hp
  rw [hx] at hce
  have c0 := hv.cell 0
  simp at c0
  clear hcell hc hx hv
  go_enter Try.func52, Try.ntmps52
  go_wp2
  go_ret
  exact ⟨rfl, rfl⟩
theorem aheadS_no (b1 b2 p : Nat) (x t A : Int) (v : Value) (xs : List Int) (T U : TypeId) (W : World) (h : Sl .i64 W v xs) (hp : p < xs.length) (hv : Blk W b1 #[v] T) (hA : Blk W b2 #[.int .i64 A] U) (hx : xs.getD p 0 ≠ x) (h1 : 0 ≤ A ∧ A ≤ 1000000) (h2 : 0 ≤ t ∧ t ≤ 1000000) :
    Calls Try.prog 52 #[.int .i64 (p : Int), .int .i64 x, .int .i64 t, .pointer (some ⟨b1, 0, none⟩), .pointer (some ⟨b2, 0, none⟩)] W fun e w' => e = .returned (.bool false) ∧ w' = W.setCell ⟨b2, 0, none⟩ (.int .i64 (A + t)) := by
  obtain ⟨a, cap, rfl, hc⟩ := h
  obtain ⟨b, off, rfl, hlt, hcell⟩ := hc (by intro e; subst e; simp at hp)
  have hce := hcell p hp
  generalize xs.getD p 0 = y at *
  have hne : (x == y) = false := by simpa using fun e => hx e.symm
  have c0 := hv.cell 0
  have a0 := hA.cell 0
  have f0 := hA.frozen 0
  simp at c0 a0
  clear hcell hc hx hv hA
  go_enter Try.func52, Try.ntmps52
  go_wp2
  go_ret
  exact ⟨rfl, rfl⟩
theorem pulsesS_yes (b1 b2 g p : Nat) (x t i : Int) (ys : List Int) (n c : Nat) (T U : TypeId) (W : World) (hp : p < ys.length) (hn : n = ys.length) (hi : Blk W b1 #[.int .i64 i] T) (hv : Blk W b2 #[.slice (some ⟨g, 0, none⟩) n c] U) (hb : Bi W g ys) (h : i < t) :
    Calls Try.prog 54 #[.int .i64 (p : Int), .int .i64 x, .int .i64 t, .pointer (some ⟨b1, 0, none⟩), .pointer (some ⟨b2, 0, none⟩)] W fun e w' => e = .returned (.bool true) ∧ w' = W.setCell ⟨g, p, none⟩ (.int .i64 x) := by
  subst hn
  have i0 := hi.cell 0
  have v0 := hv.cell 0
  obtain ⟨g0, f0⟩ := hb.cell p hp
  simp at i0 v0
  clear hi hv hb
  go_enter Try.func54, Try.ntmps54
  go_wp2
  go_ret
  exact ⟨rfl, rfl⟩
theorem pulsesS_no (b1 b2 p : Nat) (x t i : Int) (T : TypeId) (W : World) (hi : Blk W b1 #[.int .i64 i] T) (h : t ≤ i) (h1 : 0 ≤ t) (h2 : i ≤ 1000000) :
    Calls Try.prog 54 #[.int .i64 (p : Int), .int .i64 x, .int .i64 t, .pointer (some ⟨b1, 0, none⟩), .pointer (some ⟨b2, 0, none⟩)] W fun e w' => e = .returned (.bool false) ∧ w' = W.setCell ⟨b1, 0, none⟩ (.int .i64 (i - t)) := by
  have i0 := hi.cell 0
  have f0 := hi.frozen 0
  simp at i0
  clear hi
  go_enter Try.func54, Try.ntmps54
  go_wp2
  go_ret
  exact ⟨rfl, rfl⟩
end Go.Proofs.Ytpoannaidojmoaa.PulK
