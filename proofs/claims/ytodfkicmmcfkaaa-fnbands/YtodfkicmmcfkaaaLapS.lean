/- The model's faults of laps and synths, new ones, and whether two are the same. Conditions: lists of at most 1048576 numbers. -/
import Derived.Test.YtodfkicmmcfkaaaLapN
import Derived.Test.YtodfkicmmcfkaaaIntA
import Derived.Test.YtodfkicmmcfkaaaBlk
import Derived.Shelf.RegionOpenPlain
namespace Go.Proofs.Ytodfkicmmcfkaaa.LapS
open Go.ChangeShapes Go.WideShapes Go.ChangeAt Go.RowKit Go.Proofs.Ytodfkicmmcfkaaa.Num Go.Proofs.Ytodfkicmmcfkaaa.Sli Go.Proofs.Ytodfkicmmcfkaaa.App Go.Proofs.Ytodfkicmmcfkaaa.Div Go.Proofs.Ytodfkicmmcfkaaa.Samp Go.Proofs.Ytodfkicmmcfkaaa.SampF Go.Proofs.Ytodfkicmmcfkaaa.Blk Go.Proofs.Ytodfkicmmcfkaaa.TurM Go.Proofs.Ytodfkicmmcfkaaa.HalM Go.Proofs.Ytodfkicmmcfkaaa.LapM Go.Proofs.Ytodfkicmmcfkaaa.LapN Go.Proofs.Ytodfkicmmcfkaaa.IntL Go.Proofs.Ytodfkicmmcfkaaa.IntA

theorem mixed7 : Try.prog.follows Departure.mixedOrders = true := by kernel_rfl
theorem ow_nil (base : Nat) (w : World) : OwI base w (.slice none 0 0) [] := ⟨rfl, .inl ⟨rfl, rfl⟩⟩
/-- What lies above block R stays while R turns. -/
theorem _root_.Go.Proofs.Ytodfkicmmcfkaaa.App.Ow.over {k : IntKind} {t base R : Nat} {w w' : World} {v : Value} {ys : List Int} (h : Ow k t base w v ys) (hR : R < base) (hg : w.grownBy w' (some R)) : Ow k t base w' v ys :=
  h.kept hg (fun j e => by cases e; exact hR)
theorem grown_set3 (w : World) (R : Nat) (x y z : Value) : w.grownBy (((w.setCell ⟨R, 0, none⟩ x).setCell ⟨R, 1, none⟩ y).setCell ⟨R, 2, none⟩ z) (some R) := grown_same (grown_same (grown_set w R 0 x) (grown_set _ R 1 y)) (grown_set _ R 2 z)
theorem grown_set4 (w : World) (R : Nat) (x y z u : Value) : w.grownBy ((((w.setCell ⟨R, 0, none⟩ x).setCell ⟨R, 1, none⟩ y).setCell ⟨R, 2, none⟩ z).setCell ⟨R, 3, none⟩ u) (some R) := grown_same (grown_set3 w R x y z) (grown_set _ R 3 u)
theorem grown_set5 (w : World) (R : Nat) (x y z u v : Value) : w.grownBy (((((w.setCell ⟨R, 0, none⟩ x).setCell ⟨R, 1, none⟩ y).setCell ⟨R, 2, none⟩ z).setCell ⟨R, 3, none⟩ u).setCell ⟨R, 4, none⟩ v) (some R) := grown_same (grown_set4 w R x y z u) (grown_set _ R 4 v)
/-- Two owned lists that share no block. -/
structure TW (base : Nat) (u t : Value) (S D : List Int) (W : World) : Prop where
  s : OwI base W u S
  d : OwI base W t D
  ne : ∀ g, u.ownBlock = some g → t.ownBlock ≠ some g
section
variable {base R : Nat} {u t : Value} {S D : List Int} {W W' : World}
theorem TW.nil (base : Nat) (W : World) : TW base (.slice none 0 0) (.slice none 0 0) [] [] W := ⟨ow_nil _ _, ow_nil _ _, fun _ e => by cases e⟩
theorem TW.later (h : TW base u t S D W) (hb : Below W.heap.size W W') : TW base u t S D W' := ⟨h.s.later hb, h.d.later hb, h.ne⟩
theorem TW.mono {base' : Nat} (h : TW base u t S D W) (hb : base' ≤ base) : TW base' u t S D W := ⟨h.s.mono hb, h.d.mono hb, h.ne⟩
theorem TW.over (h : TW base u t S D W) (hR : R < base) (hg : W.grownBy W' (some R)) : TW base u t S D W' := ⟨h.s.over hR hg, h.d.over hR hg, h.ne⟩
theorem TW.set4 (h : TW base u t S D W) (hR : R < base) (x y z v : Value) : TW R u t S D ((((W.setCell ⟨R, 0, none⟩ x).setCell ⟨R, 1, none⟩ y).setCell ⟨R, 2, none⟩ z).setCell ⟨R, 3, none⟩ v) := (h.over hR (grown_set4 W R x y z v)).mono (by omega)
end
/-- What a new one tells. -/
def nlS (s : Int) : Int := if szF s = 0 then s else 0
def nlL (s : Int) : List Int := if szF s = 0 then List.replicate (hN s) 0 else []
/-- A new one: noughts alone. -/
theorem l7New_calls (s : Int) (w : World) (hz : szF s = 0) :
    Calls Try.prog 56 #[.int .i64 s] w fun e w' => ∃ u t, e = .returned (.agg #[.int .i64 s, u, t]) ∧ TW w.heap.size u t (List.replicate (hN s) 0) (List.replicate (hN s) 0) w' ∧ Below w.heap.size w w' := by
  obtain ⟨_, e1, e2, e3, e4, e5⟩ := sz_nat hz
  have hm0 : s.tdiv 2 = (hN s : Int) := by rw [Int.tdiv_eq_ediv_of_nonneg (by omega)]; exact e5
  have hbd : 0 ≤ s ∧ s ≤ 16 := by omega
  have HZ := hid (fun W => zeros_calls (hN s) W (by omega))
  clear e1 e2 e5 hz
  generalize hN s = m at *
  go_enter Try.func56, Try.ntmps56
  go_wp2_with fail
  refine (HZ.out _).mono ?_
  rintro e w1 ⟨rfl, ho1, hb1⟩
  have hs1 := hb1.size
  rw [World.size_alloc] at hs1
  have hB1 := (Blk.new w #[.int .i64 0, .slice none 0 0, .slice none 0 0] 78).later hb1
  have HL1 := hid (bthen (bmore (Below.refl _ w) _) hb1)
  have HO1 := hid ho1
  have HB1 := hid hB1
  clear ho1 hb1 hB1
  rw [World.size_alloc] at HO1
  go_wp2_with fail
  refine (HZ.out _).mono ?_
  rintro e w2 ⟨rfl, ho2, hb2⟩
  have HB2 := hid (HB1.out.later hb2)
  have HL2 := hid (bthen HL1.out hb2)
  have HO2 := hid (HO1.out.later hb2)
  have HP2 := hid (ho2.mono hs1)
  obtain ⟨c0, c1, c2, f0, f1, f2⟩ := HB2.out.three
  have hne : w.heap.size + 1 ≠ w1.heap.size := by have := (HO1.out.block (w.heap.size + 1) rfl).2; omega
  have HT : Hid (TW w.heap.size (.slice (some ⟨w.heap.size + 1, 0, none⟩) m m) (.slice (some ⟨w1.heap.size, 0, none⟩) m m) (List.replicate m 0) (List.replicate m 0) (((w2.setCell ⟨w.heap.size, 0, none⟩ (.int .i64 s)).setCell ⟨w.heap.size, 1, none⟩ (.slice (some ⟨w.heap.size + 1, 0, none⟩) m m)).setCell ⟨w.heap.size, 2, none⟩ (.slice (some ⟨w1.heap.size, 0, none⟩) m m))) :=
    ⟨((HO2.out.over (by omega) (grown_set3 w2 w.heap.size _ _ _)).mono (by omega)), ((HP2.out.over (by omega) (grown_set3 w2 w.heap.size _ _ _)).mono (by omega)), fun g e1 e2 => by simp [Value.ownBlock] at e1 e2; omega⟩
  have HLb := hid (below_cell (below_cell (below_cell HL2.out (Nat.le_refl _) 0 (.int .i64 s)) (Nat.le_refl _) 1 (.slice (some ⟨w.heap.size + 1, 0, none⟩) m m)) (Nat.le_refl _) 2 (.slice (some ⟨w1.heap.size, 0, none⟩) m m))
  clear ho2 hb2 HO1 HB1 HL1 HO2 HP2 HZ
  go_wp2
  exact bodyPost_ret (v := .agg #[.int .i64 s, .slice (some ⟨w.heap.size + 1, 0, none⟩) m m, .slice (some ⟨w1.heap.size, 0, none⟩) m m]) (by simp [results, Try.results56, go_sem, c0, c1, c2]) rfl ⟨_, _, rfl, HT.out, HLb.out⟩
end Go.Proofs.Ytodfkicmmcfkaaa.LapS
