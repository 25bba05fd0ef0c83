/- The leaves of the program's blocks: numbers within bounds, what can be halved, a pair of two numbers, a part of a block that is turned round. -/
import Derived.Test.YtodfkicmmcfkaaaHalM
import Derived.Test.YtodfkicmmcfkaaaIntA
import Derived.Test.YtodfkicmmcfkaaaPar
import Derived.Shelf.RegionOpenPlain
import Derived.Deep.CutBlock
import Derived.Deep.DeepCutAuto
namespace Go.Proofs.Ytodfkicmmcfkaaa.BkI
open Go.ChangeShapes Go.WideShapes Go.ChangeAt Go.RowKit Go.Proofs.Ytodfkicmmcfkaaa.Num Go.Proofs.Ytodfkicmmcfkaaa.Sli Go.Proofs.Ytodfkicmmcfkaaa.App Go.Proofs.Ytodfkicmmcfkaaa.Samp Go.Proofs.Ytodfkicmmcfkaaa.Blk Go.Proofs.Ytodfkicmmcfkaaa.TurM Go.Proofs.Ytodfkicmmcfkaaa.HalM Go.Proofs.Ytodfkicmmcfkaaa.IntL Go.Proofs.Ytodfkicmmcfkaaa.IntA

/-- Numbers as cells, and a block that holds just them. -/
def cs (ys : List Int) : Array Value := (ys.map (Value.int .i64)).toArray
def Bi (w : World) (g : Nat) (ys : List Int) : Prop := Blk w g (cs ys) 2
section
variable {w w' : World} {g : Nat} {ys : List Int}
theorem Bi.lt (h : Bi w g ys) : g < w.heap.size := Blk.lt h
theorem Bi.cell (h : Bi w g ys) (i : Nat) (hi : i < ys.length) : w.cell? ⟨g, i, none⟩ = some (.int .i64 (ys.getD i 0)) ∧ w.frozen? ⟨g, i, none⟩ = false := by
  refine ⟨?_, Blk.frozen h i⟩
  rw [Blk.cell h i]
  simp [cs, hi]
theorem Bi.set (h : Bi w g ys) (i : Nat) (x : Int) : Bi (w.setCell ⟨g, i, none⟩ (.int .i64 x)) g (ys.set i x) := by
  have := Blk.set h i (.int .i64 x)
  have e : (cs ys).setIfInBounds i (.int .i64 x) = cs (ys.set i x) := by simp [cs, List.map_set]
  rw [e] at this
  exact this
theorem Bi.other (h : Bi w g ys) {b : Nat} (hne : b ≠ g) (i : Nat) (v : Value) : Bi (w.setCell ⟨b, i, none⟩ v) g ys := Blk.other h hne i v
theorem Bi.later (h : Bi w g ys) (hb : Below w.heap.size w w') : Bi w' g ys := Blk.later h hb
theorem Bi.kept {row : Option Nat} (h : Bi w g ys) (hg : w.grownBy w' row) (hne : row ≠ some g) : Bi w' g ys := Blk.kept h hg hne
theorem Bi.ow (h : Bi w g ys) {base : Nat} (hb : base ≤ g) (hm : ys.length ≤ 1048576) : OwI base w (.slice (some ⟨g, 0, none⟩) ys.length ys.length) ys :=
  ⟨by simp, Or.inr ⟨g, ys.length, cs ys, rfl, hb, h, Nat.le_refl _, by unfold maxLen; omega, by simp [cs], by simp [cs, List.take_of_length_le]⟩⟩
end
theorem grown_drew {w w' : World} {r : Option Nat} (h : w.grownBy w' r) : w.grownBy w'.drew r := ⟨h.os, h.tape, h.output, h.size, h.block⟩
theorem mixed_orders : Try.prog.follows Departure.mixedOrders = true := by kernel_rfl
theorem made_cs (n : Nat) : madeCells #[Value.int .i64 0] n = cs (List.replicate n 0) := by
  apply Array.toList_inj.1
  rw [toList_madeCells_one]; simp [cs]
theorem infoJ : (Try.prog.info? 2).map (fun i => (i.zero, i.size, i.bytes)) = some (some (.int .i64 0), 1, 8) := by kernel_rfl
theorem make_i (m : Nat) (hm : m ≤ 1048576) (W : World) : (Instr.makeSlice 24 (.int .i64 (m : Int)) (.int .i64 (m : Int))).run Try.prog W = .ok (.slice (some ⟨W.heap.size, 0, none⟩) m m) (W.alloc (.cells (cs (List.replicate m 0)) 2)) := by
  obtain ⟨i0, hi, hz0, hz1, hz2⟩ := info_parts infoJ
  have := run_make (P := Try.prog) W 24 2 i0 (.int .i64 0) Try.underlying24 hi hz0 .i64 .i64 (m : Int) (m : Int) (by omega) (by omega) (by rw [hz2]; omega) (by omega)
  rw [hz1, Nat.mul_one, Int.toNat_natCast, show (Value.int .i64 0).cells = #[Value.int .i64 0] from rfl, made_cs] at this
  exact this
/-- Part of a list behind another one. -/
theorem sec_get (A D : List Int) (i : Nat) : (A ++ D).getD (A.length + i) 0 = D.getD i 0 := by
  simp [List.getD_eq_getElem?_getD, List.getElem?_append_right]
theorem sec_set (A D : List Int) (i : Nat) (x : Int) : (A ++ D).set (A.length + i) x = A ++ D.set i x := by
  rw [List.set_append_right _ _ (by omega)]; simp
theorem rev_get (D : List Int) (j : Nat) (h : j < D.length) : D.reverse.getD j 0 = D.getD (D.length - 1 - j) 0 := by
  simp [List.getD_eq_getElem?_getD, List.getElem?_reverse h]
def rvF (D : List Int) (j : Nat) : Int := D.getD (D.length - 1 - j) 0
theorem rv_end {D : List Int} {k : Nat} (h : D.length ≤ 2 * k + 1) : pS D.length k (rvF D) (fun i => D.getD i 0) = D.reverse := by
  apply ext_g (by rw [pS_len, List.length_reverse])
  intro j hj
  rw [pS_len] at hj
  rw [rev_get D j hj]
  unfold pS
  rw [mkL_get _ hj]
  by_cases e : j < k ∨ D.length - 1 - j < k
  · rw [if_pos e]; rfl
  · rw [if_neg e]
    show D.getD j 0 = D.getD (D.length - 1 - j) 0
    rw [show D.length - 1 - j = j by omega]

set_option maxHeartbeats 1000000 in
theorem areIn_calls (v : Value) (l : List Int) (A M : Int) (w : World) (h : Sl .i64 w v l) (hm : l.length ≤ 1048576) :
    Calls Try.prog 71 #[v, .int .i64 A, .int .i64 M] w fun e w' => e = .returned (.bool (l.all (inB A M))) ∧ w' = w := by
  have HW := hid isWithin_calls
  obtain ⟨a, cap, rfl, hc⟩ := h
  have HC := hid hc
  clear hc
  go_enter Try.func71, Try.ntmps71
  go_wp2
  go_loop [11] (fun i => ∃ k : Nat, k ≤ l.length ∧ i = .int .i64 k ∧ Hid ((l.take k).all (inB A M) = true)) (fun i => l.length - (intOf i).toNat)
  case atStart => exact ⟨0, Nat.zero_le _, rfl, by show _ = _; simp⟩
  case round =>
    obtain ⟨k, hk, rfl, hall⟩ := hrel
    by_cases hlt : k < l.length
    · have hne : l ≠ [] := by intro e; rw [e] at hlt; simp at hlt
      obtain ⟨b, off, rfl, hbl, hcell⟩ := HC.out hne
      have hc := hcell k hlt
      have hx : (l.take (k + 1)).all (inB A M) = ((l.take k).all (inB A M) && inB A M (l.getD k 0)) := by
        rw [List.take_add_one, List.all_append, List.getD_eq_getElem?_getD, List.getElem?_eq_getElem hlt]; simp
      have HX := hid hx
      have HN : Hid (inB A M (l.getD k 0) = false → l.all (inB A M) = false) := by
        intro e
        rw [List.all_eq_false]
        refine ⟨l.getD k 0, ?_, by rw [e]; simp⟩
        rw [List.getD_eq_getElem?_getD, List.getElem?_eq_getElem hlt]; exact List.getElem_mem _
      clear hcell hx HC
      generalize l.getD k 0 = x at *
      have HWx := hid (HW.out x A M)
      cases hb : inB A M x
      · rw [hb] at HWx
        have HR := hid (HN.out hb)
        clear HX HN hb
        go_wp2_with (go_at_call 47; refine (HWx.out _).mono ?_; rintro e w' ⟨rfl, rfl⟩)
        go_ret
        exact ⟨by rw [HR.out]; rfl, rfl⟩
      · rw [hb] at HWx
        have HR : Hid ((l.take (k + 1)).all (inB A M) = true) := by show _ = _; rw [HX.out, hall.out, hb]; rfl
        clear HX HN hb hall
        go_wp2_with (go_at_call 47; refine (HWx.out _).mono ?_; rintro e w' ⟨rfl, rfl⟩)
        go_round
        case rel => exact ⟨k + 1, by omega, by go_num, HR⟩
        case measure => simp [intOf]; omega
    · have he : k = l.length := by omega
      subst he
      have HR : Hid (l.all (inB A M) = true) := by have := hall.out; rwa [List.take_length] at this
      clear hall HC
      go_wp2
      go_ret
      exact ⟨by rw [HR.out]; rfl, rfl⟩
theorem areWithin_calls (v : Value) (l : List Int) (M : Int) (w : World) (h : Sl .i64 w v l) (hm : l.length ≤ 1048576) (_ : 0 ≤ M) (_ : M ≤ 2000000000) :
    Calls Try.prog 71 #[v, .int .i64 (-M), .int .i64 M] w fun e w' => e = .returned (.bool (l.all (inB (-M) M))) ∧ w' = w := areIn_calls v l (-M) M w h hm
end Go.Proofs.Ytodfkicmmcfkaaa.BkI
