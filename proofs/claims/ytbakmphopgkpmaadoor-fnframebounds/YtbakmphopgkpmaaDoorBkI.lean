/- The leaves of the program's blocks: numbers within bounds, what can be halved, a pair of two numbers, a part of a block that is turned round. -/
import Derived.Test.YtbakmphopgkpmaaDoorGb
import Derived.Test.YtbakmphopgkpmaaDoorGa
import Derived.Shelf.RegionOpenPlain
import Derived.Deep.CutBlock
import Derived.Deep.DeepCutAuto
namespace Go.Proofs.YtbakmphopgkpmaaDoor.BkI
open Go.ChangeShapes Go.WideShapes Go.ChangeAt Go.RowKit Go.Proofs.YtbakmphopgkpmaaDoor.Num Go.Proofs.YtbakmphopgkpmaaDoor.Sli Go.Proofs.YtbakmphopgkpmaaDoor.App Go.Proofs.YtbakmphopgkpmaaDoor.Samp Go.Proofs.YtbakmphopgkpmaaDoor.Blk Go.Proofs.YtbakmphopgkpmaaDoor.TurM Go.Proofs.YtbakmphopgkpmaaDoor.HalM Go.Proofs.YtbakmphopgkpmaaDoor.IntL Go.Proofs.YtbakmphopgkpmaaDoor.IntA

/-- Numbers as cells, and a block that holds just them. -/
def cs (ys : List Int) : Array Value := (ys.map (Value.int .i64)).toArray
def Bi (w : World) (g : Nat) (ys : List Int) : Prop := Blk w g (cs ys) 2
section
variable {w w' : World} {g : Nat} {ys : List Int}
theorem Bi.lt (h : Bi w g ys) : g < w.heap.size := Blk.lt h
theorem Bi.cell (h : Bi w g ys) (i : Nat) (hi : i < ys.length) : w.cell? ⟨g, i, none⟩ = some (.int .i64 (ys.getD i 0)) ∧ w.frozen? ⟨g, i, none⟩ = false := by
  refine ⟨?_, Blk.frozen h i⟩
  rw [Blk.cell h i]
  simp [cs, hi]
theorem Bi.set (h : Bi w g ys) (i : Nat) (x : Int) : Bi (w.setCell ⟨g, i, none⟩ (.int .i64 x)) g (ys.set i x) := by
  have := Blk.set h i (.int .i64 x)
  have e : (cs ys).setIfInBounds i (.int .i64 x) = cs (ys.set i x) := by simp [cs, List.map_set]
  rw [e] at this
  exact this
theorem Bi.other (h : Bi w g ys) {b : Nat} (hne : b ≠ g) (i : Nat) (v : Value) : Bi (w.setCell ⟨b, i, none⟩ v) g ys := Blk.other h hne i v
theorem Bi.later (h : Bi w g ys) (hb : Below w.heap.size w w') : Bi w' g ys := Blk.later h hb
theorem Bi.kept {row : Option Nat} (h : Bi w g ys) (hg : w.grownBy w' row) (hne : row ≠ some g) : Bi w' g ys := Blk.kept h hg hne
theorem Bi.ow (h : Bi w g ys) {base : Nat} (hb : base ≤ g) (hm : ys.length ≤ 1048576) : OwI base w (.slice (some ⟨g, 0, none⟩) ys.length ys.length) ys :=
  ⟨by simp, Or.inr ⟨g, ys.length, cs ys, rfl, hb, h, Nat.le_refl _, by unfold maxLen; omega, by simp [cs], by simp [cs, List.take_of_length_le]⟩⟩
end
theorem grown_drew {w w' : World} {r : Option Nat} (h : w.grownBy w' r) : w.grownBy w'.drew r := ⟨h.os, h.tape, h.output, h.size, h.block⟩
theorem mixed_orders : Tryd.prog.follows Departure.mixedOrders = true := by kernel_rfl
theorem made_cs (n : Nat) : madeCells #[Value.int .i64 0] n = cs (List.replicate n 0) := by
  apply Array.toList_inj.1
  rw [toList_madeCells_one]; simp [cs]
theorem infoJ : (Tryd.prog.info? 2).map (fun i => (i.zero, i.size, i.bytes)) = some (some (.int .i64 0), 1, 8) := by kernel_rfl
theorem make_i (m : Nat) (hm : m ≤ 1048576) (W : World) : (Instr.makeSlice 30 (.int .i64 (m : Int)) (.int .i64 (m : Int))).run Tryd.prog W = .ok (.slice (some ⟨W.heap.size, 0, none⟩) m m) (W.alloc (.cells (cs (List.replicate m 0)) 2)) := by
  obtain ⟨i0, hi, hz0, hz1, hz2⟩ := info_parts infoJ
  have := run_make (P := Tryd.prog) W 30 2 i0 (.int .i64 0) Tryd.underlying30 hi hz0 .i64 .i64 (m : Int) (m : Int) (by omega) (by omega) (by rw [hz2]; omega) (by omega)
  rw [hz1, Nat.mul_one, Int.toNat_natCast, show (Value.int .i64 0).cells = #[Value.int .i64 0] from rfl, made_cs] at this
  exact this
/-- Part of a list behind another one. -/
theorem sec_get (A D : List Int) (i : Nat) : (A ++ D).getD (A.length + i) 0 = D.getD i 0 := by
  simp [List.getD_eq_getElem?_getD, List.getElem?_append_right]
theorem sec_set (A D : List Int) (i : Nat) (x : Int) : (A ++ D).set (A.length + i) x = A ++ D.set i x := by
  rw [List.set_append_right _ _ (by omega)]; simp
theorem rev_get (D : List Int) (j : Nat) (h : j < D.length) : D.reverse.getD j 0 = D.getD (D.length - 1 - j) 0 := by
  simp [List.getD_eq_getElem?_getD, List.getElem?_reverse h]
def rvF (D : List Int) (j : Nat) : Int := D.getD (D.length - 1 - j) 0
theorem rv_end {D : List Int} {k : Nat} (h : D.length ≤ 2 * k + 1) : pS D.length k (rvF D) (fun i => D.getD i 0) = D.reverse := by
  apply ext_g (by rw [pS_len, List.length_reverse])
  intro j hj
  rw [pS_len] at hj
  rw [rev_get D j hj]
  unfold pS
  rw [mkL_get _ hj]
  by_cases e : j < k ∨ D.length - 1 - j < k
  · rw [if_pos e]; rfl
  · rw [if_neg e]
    show D.getD j 0 = D.getD (D.length - 1 - j) 0
    rw [show D.length - 1 - j = j by omega]

set_option maxHeartbeats 1000000 in
theorem areIn_calls (v : Value) (l : List Int) (A M : Int) (w : World) (h : Sl .i64 w v l) (hm : l.length ≤ 1048576) :
    Calls Tryd.prog 73 #[v, .int .i64 A, .int .i64 M] w fun e w' => e = .returned (.bool (l.all (inB A M))) ∧ w' = w := by
  have HW := hid isWithin_calls
  obtain ⟨a, cap, rfl, hc⟩ := h
  have HC := hid hc
  clear hc
  go_enter Tryd.func73, Tryd.ntmps73
  go_wp2
  go_loop [11] (fun i => ∃ k : Nat, k ≤ l.length ∧ i = .int .i64 k ∧ Hid ((l.take k).all (inB A M) = true)) (fun i => l.length - (intOf i).toNat)
  case atStart => exact ⟨0, Nat.zero_le _, rfl, by show _ = _; simp⟩
  case round =>
    obtain ⟨k, hk, rfl, hall⟩ := hrel
    by_cases hlt : k < l.length
    · have hne : l ≠ [] := by intro e; rw [e] at hlt; simp at hlt
      obtain ⟨b, off, rfl, hbl, hcell⟩ := HC.out hne
      have hc := hcell k hlt
      have hx : (l.take (k + 1)).all (inB A M) = ((l.take k).all (inB A M) && inB A M (l.getD k 0)) := by
        rw [List.take_add_one, List.all_append, List.getD_eq_getElem?_getD, List.getElem?_eq_getElem hlt]; simp
      have HX := hid hx
      have HN : Hid (inB A M (l.getD k 0) = false → l.all (inB A M) = false) := by
        intro e
        rw [List.all_eq_false]
        refine ⟨l.getD k 0, ?_, by rw [e]; simp⟩
        rw [List.getD_eq_getElem?_getD, List.getElem?_eq_getElem hlt]; exact List.getElem_mem _
      clear hcell hx HC
      generalize l.getD k 0 = x at *
      have HWx := hid (HW.out x A M)
      cases hb : inB A M x
      · rw [hb] at HWx
        have HR := hid (HN.out hb)
        clear HX HN hb
        go_wp2_with (go_at_call 93; refine (HWx.out _).mono ?_; rintro e w' ⟨rfl, rfl⟩)
        go_ret
        exact ⟨by rw [HR.out]; rfl, rfl⟩
      · rw [hb] at HWx
        have HR : Hid ((l.take (k + 1)).all (inB A M) = true) := by show _ = _; rw [HX.out, hall.out, hb]; rfl
        clear HX HN hb hall
        go_wp2_with (go_at_call 93; refine (HWx.out _).mono ?_; rintro e w' ⟨rfl, rfl⟩)
        go_round
        case rel => exact ⟨k + 1, by omega, by go_num, HR⟩
        case measure => simp [intOf]; omega
    · have he : k = l.length := by omega
      subst he
      have HR : Hid (l.all (inB A M) = true) := by have := hall.out; rwa [List.take_length] at this
      clear hall HC
      go_wp2
      go_ret
      exact ⟨by rw [HR.out]; rfl, rfl⟩
theorem areWithin_calls (v : Value) (l : List Int) (M : Int) (w : World) (h : Sl .i64 w v l) (hm : l.length ≤ 1048576) (_ : 0 ≤ M) (_ : M ≤ 2000000000) :
    Calls Tryd.prog 73 #[v, .int .i64 (-M), .int .i64 M] w fun e w' => e = .returned (.bool (l.all (inB (-M) M))) ∧ w' = w := areIn_calls v l (-M) M w h hm
set_option maxHeartbeats 2000000 in
/-- The numbers D behind A are turned round in their block; nothing else turns. -/
theorem reverse_calls (g c off m : Nat) (A D : List Int) (w : World) (h : Bi w g (A ++ D)) (ho : A.length = off) (hm : D.length = m) (hs : m ≤ 1048576) :
    Calls Tryd.prog 122 #[.slice (some ⟨g, off, none⟩) m c] w fun e w' => e = .returned (.tuple #[]) ∧ Bi w' g (A ++ D.reverse) ∧ w.grownBy w' (some g) := by
  have H0 : Hid (Bi w g (A ++ pS m 0 (rvF D) (fun i => D.getD i 0))) := by
    show Bi _ _ _
    rw [pS_zero, ← hm, mkL_self]; exact h
  have HEnd : Hid (∀ k, m ≤ 2 * k + 1 → pS m k (rvF D) (fun i => D.getD i 0) = D.reverse) := by
    intro k hk; rw [← hm] at hk ⊢; exact rv_end hk
  have HV : Hid (∀ k, k < m → rvF D k = D.getD (m - 1 - k) 0 ∧ rvF D (m - 1 - k) = D.getD k 0) := by
    intro k hk; unfold rvF; rw [hm]; exact ⟨rfl, by rw [show m - 1 - (m - 1 - k) = k by omega]⟩
  have Ho := hid ho
  clear h ho hm
  generalize hvv : rvF D = vv at *
  generalize hoo : (fun i => D.getD i 0) = oo at *
  have HO : Hid (∀ i, oo i = D.getD i 0) := fun i => by rw [← hoo]
  clear hoo hvv
  go_enter Tryd.func122, Tryd.ntmps122
  go_wp2
  go_loopw [2, 3] (fun a b wr => ∃ (k : Nat) (jz : Int), a = .int .i64 (k : Int) ∧ b = .int .i64 jz ∧ Hid (jz = (m : Int) - 1 - k) ∧ k ≤ m ∧ Hid (Bi wr g (A ++ pS m k vv oo)) ∧ Hid (w.grownBy wr (some g))) (fun a _ _ => m - (intOf a).toNat)
  case atStart => exact ⟨0, _, rfl, rfl, by show _ = _; omega, Nat.zero_le _, H0, grown_refl _ _⟩
  case round =>
    obtain ⟨k, jz, rfl, rfl, HJ, hk, HK, HG⟩ := hrel
    clear H0
    by_cases hlt : (k : Int) < jz
    · obtain ⟨q, hq⟩ : ∃ q : Nat, jz = (q : Int) := ⟨jz.toNat, by have := HJ.out; omega⟩
      subst hq
      have hqm : m - 1 - k = q := by have := HJ.out; omega
      have hkm : k < m := by have := HJ.out; omega
      have hqlt : q < m := by omega
      have hne : k ≠ q := by omega
      have h2k : 2 * k < m := by omega
      obtain ⟨c1, f1⟩ := HK.out.cell (off + k) (by rw [List.length_append, pS_len, Ho.out]; omega)
      obtain ⟨c2, f2⟩ := HK.out.cell (off + q) (by rw [List.length_append, pS_len, Ho.out]; omega)
      rw [← Ho.out, sec_get, pS_lo vv oo h2k, HO.out k, Ho.out] at c1
      rw [← Ho.out, sec_get, ← hqm, pS_hi vv oo h2k, hqm, HO.out q, Ho.out] at c2
      have hstep := pS_step (m := m) (k := k) vv oo
      rw [hqm, (HV.out k hkm).1, hqm] at hstep
      have hv2 := (HV.out k hkm).2
      rw [hqm] at hv2
      rw [hv2] at hstep
      have HN : Hid (Bi ((wr.setCell ⟨g, off + k, none⟩ (.int .i64 (D.getD q 0))).setCell ⟨g, off + q, none⟩ (.int .i64 (D.getD k 0))) g (A ++ pS m (k + 1) vv oo)) := by
        have h1 := (HK.out.set (off + k) (D.getD q 0)).set (off + q) (D.getD k 0)
        rw [← Ho.out, sec_set, sec_set, hstep, Ho.out] at h1
        exact h1
      have HG2 := hid (grown_drew (grown_same HG.out (grown_same (grown_set wr g (off + k) (.int .i64 (D.getD q 0))) (grown_set _ g (off + q) (.int .i64 (D.getD k 0))))))
      have mixed := mixed_orders
      have HJ2 : Hid ((q : Int) - 1 = (m : Int) - 1 - ((k + 1 : Nat) : Int)) := by show _ = _; omega
      have hqI : (q : Int) < (m : Int) := by omega
      have hkI : (k : Int) < (m : Int) := by omega
      clear hstep hv2 HK HG HJ hqm h2k HEnd HV
      generalize D.getD k 0 = x at *
      generalize D.getD q 0 = y at *
      go_wp2_with fail
      go_region_o
      go_wp2
      go_roundw
      case rel => exact ⟨k + 1, _, by go_num, rfl, HJ2, by omega, HN, HG2⟩
      case measure => simp [intOf]; omega
    · have HB := hid HK.out
      rw [HEnd.out k (by have := HJ.out; omega)] at HB
      clear HK HJ HEnd HV
      go_wp2
      go_end0
      exact ⟨rfl, HB.out, HG.out⟩
end Go.Proofs.YtbakmphopgkpmaaDoor.BkI
