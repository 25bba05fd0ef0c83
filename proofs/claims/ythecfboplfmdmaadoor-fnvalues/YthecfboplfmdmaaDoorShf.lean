/- The program's coder: a byte is shifted out; the iterator over the settled bytes; the carry. -/
import Derived.Test.YthecfboplfmdmaaDoorCarM
import Derived.Test.YthecfboplfmdmaaDoorByte
import Derived.Test.YthecfboplfmdmaaDoorTakT
import Derived.Test.YthecfboplfmdmaaDoorRngF
import Derived.Shelf.Abstract
import Derived.Shelf.RegionOpen
import Derived.WalkKit
import Derived.OwnWalkIn
import Derived.TacticsInMore
import Derived.LoopNIn
import Derived.LoopIn
import Derived.WalkMore
namespace Go.Proofs.YthecfboplfmdmaaDoor.Shf
open Go.ChangeShapes Go.WideShapes Go.ChangeAt Go.RowKit Go.Proofs.YthecfboplfmdmaaDoor.Num Go.Proofs.YthecfboplfmdmaaDoor.Sli Go.Proofs.YthecfboplfmdmaaDoor.App Go.Proofs.YthecfboplfmdmaaDoor.Byt Go.Proofs.YthecfboplfmdmaaDoor.CrcM Go.Proofs.YthecfboplfmdmaaDoor.Str Go.Proofs.YthecfboplfmdmaaDoor.Div Go.Proofs.YthecfboplfmdmaaDoor.Dec Go.Proofs.YthecfboplfmdmaaDoor.Blk Go.Proofs.YthecfboplfmdmaaDoor.Nxt Go.Proofs.YthecfboplfmdmaaDoor.Byte Go.Proofs.YthecfboplfmdmaaDoor.TakS Go.Proofs.YthecfboplfmdmaaDoor.TakT Go.Proofs.YthecfboplfmdmaaDoor.RngF Go.Proofs.YthecfboplfmdmaaDoor.RangeM Go.Proofs.YthecfboplfmdmaaDoor.CarM
attribute [local go_sem] Oper.semAt_some

theorem shift_calls (g : Nat) (v : Value) (low len : Int) (t : TypeId) (w : World) (hB : Blk w g #[v, .int .i64 low, .int .i64 len] t) (h1 : 0 ≤ low) (h2 : low < 16777216) (h3 : 0 ≤ len) (h4 : len ≤ 4503599627370496) :
    Calls Tryd.prog 68 #[.pointer (some ⟨g, 0, none⟩)] w fun e w' => e = .returned (.int .u8 (low / 65536)) ∧ Blk w' g #[v, .int .i64 (low % 65536 * 256), .int .i64 (len * 256)] t ∧ w.grownBy w' (some g) := by
  obtain ⟨c0, c1, c2, f0, f1, f2⟩ := hB.three
  have HB := hid hB
  have k1 : low.tdiv 65536 = low / 65536 := Int.tdiv_eq_ediv_of_nonneg h1
  have k2 : low.tmod 65536 = low % 65536 := Int.tmod_eq_emod_of_nonneg h1
  have k3 : 0 ≤ low / 65536 ∧ low / 65536 < 256 := by omega
  have k4 : 0 ≤ low % 65536 ∧ low % 65536 < 65536 := by omega
  have k5 : low / 65536 % 256 = low / 65536 := by omega
  clear hB
  generalize low / 65536 = p at *
  generalize low % 65536 = q at *
  obtain ⟨k31, k32⟩ := k3
  obtain ⟨k41, k42⟩ := k4
  go_enter Tryd.func68, Tryd.ntmps68
  go_wp2
  go_ret
  exact ⟨rfl, (HB.out.set 1 _).set 2 _, grown_same (grown_set w g 1 _) (grown_set _ g 2 _)⟩
def lenAt (w : World) (g : Nat) : Int := match w.cell? ⟨g, 2, none⟩ with | some v => intOf v | none => 0
theorem lenAt_eq {w : World} {g : Nat} {k : Int} (h : w.cell? ⟨g, 2, none⟩ = some (.int .i64 k)) : lenAt w g = k := by unfold lenAt; rw [h]; rfl
theorem settled_calls (g : Nat) (w : World) :
    Calls Tryd.prog 67 #[.pointer (some ⟨g, 0, none⟩)] w fun e w' => e = .returned (.func (.func 90) #[] #[.pointer (some ⟨w.heap.size, 0, none⟩)]) ∧ w' = w.alloc (.cells #[.pointer (some ⟨g, 0, none⟩)] 99) := by
  have hmf : ∀ (fn : Fn) (first cap : Array Value) (w : World), (Instr.makeFunc fn first cap).run Tryd.prog w = .ok (.func fn first cap) w := fun _ _ _ _ => rfl
  go_enter Tryd.func67, Tryd.ntmps67
  go_wp2
  go_ret
  exact ⟨rfl, rfl⟩
set_option maxHeartbeats 1000000 in
/-- The iterator: as long as the range is short a byte is shifted out and yielded. J s: s bytes were yielded and taken; I s x: the byte x is yielded now. -/
theorem settled1_in {r0 : Loop} {rc : Code → Loop} {B bx g N : Nat} (low len : Nat → Int)
    (I O : Nat → Int → World → Prop) (J : Nat → World → Prop) (Dn : World → Prop)
    (hJ : ∀ s W, J s W → Blk W bx #[.pointer (some ⟨g, 0, none⟩)] 99 ∧ (∃ u, Blk W g #[u, .int .i64 (low s), .int .i64 (len s)] 81) ∧ s ≤ N ∧ (0 ≤ low s ∧ low s < 16777216) ∧ (1 ≤ len s ∧ len s ≤ 16777216) ∧ (s < N ↔ len s < 65536) ∧ len (s + 1) = len s * 256)
    (hI : ∀ s W W' u, s < N → J s W → Blk W g #[u, .int .i64 (low s), .int .i64 (len s)] 81 → Blk W' g #[u, .int .i64 (low s % 65536 * 256), .int .i64 (len s * 256)] 81 → W.grownBy W' (some g) → I s (low s / 65536) W')
    (hO : ∀ s x W, O s x W → J (s + 1) W) (hD : ∀ W, J N W → Dn W) (hBg : g ≠ B ∧ g ≠ B + 1)
    (hY : ∀ s x W, I s x W → Bk B r0 W → YieldAt Fence.wide 0 Tryd.prog (B + 1) #[.int .u8 x] W fun e W' =>
      (e = .returned (.bool true) ∧ O s x W' ∧ Bk B r0 W') ∨ (e = .returned (.bool false) ∧ ∃ c : Code, False ∧ Bk B (rc c) W'))
    (W : World) (h0 : J 0 W) (hb : Bk B r0 W) :
    CallsIn Fence.wide 0 Tryd.prog 90 #[.func (.yield (B + 1)) #[] #[], .pointer (some ⟨bx, 0, none⟩)] W fun e W' => (∃ v, e = .returned v) ∧ ((Dn W' ∧ Bk B r0 W') ∨ ∃ c : Code, False ∧ Bk B (rc c) W') := by
  have H0 := hid h0
  have HBk := hid hb
  have HY := hid hY
  have HI := hid hI
  have HO := hid hO
  have HD := hid hD
  have HJ := hid hJ
  clear hY hI hO hD hJ h0 hb
  refine callsIn_of_wp Tryd.func90 rfl trivial ?_ rfl
  simp only [Tryd.ntmps90, List.size_toArray, List.length_cons, List.length_nil, Nat.reduceAdd, Nat.reduceSub, Array.replicate_succ, Array.replicate_zero, List.push_toArray, List.append_toArray, List.nil_append, List.cons_append]
  gi_wp2
  gi_loopw [] (fun wr => ∃ s : Nat, Hid (J s wr) ∧ Hid (Bk B r0 wr)) (fun wr => 16777217 - (lenAt wr g).toNat)
  case atStart => exact ⟨0, H0.out, HBk.out⟩
  case round =>
    obtain ⟨s, hj, hbk⟩ := hrel
    obtain ⟨hbx, ⟨u, hg⟩, hs, ⟨l1, l2⟩, ⟨l3, l4⟩, hiff, hnx⟩ := HJ.out s wr hj.out
    have Hm := hid (lenAt_eq (hg.cell 2))
    have c0 := hbx.cell 0
    simp only [List.getElem?_toArray, List.getElem?_cons_zero] at c0
    obtain ⟨d0, d1, d2, e0, e1, e2⟩ := hg.three
    by_cases hlt : s < N
    · have hl := hiff.1 hlt
      have HC := hid (shift_calls g u (low s) (len s) _ wr hg l1 l2 (by omega) (by omega))
      have HG := hid hg
      have HI' := hid (fun W' hB hG => HI.out s wr W' u hlt hj.out HG.out hB hG)
      have hrow : ∀ j, (some g : Option Nat) = some j → j ≠ B ∧ j ≠ B + 1 := fun j e => by cases e; exact hBg
      have HBk' := hid (fun W' (hG : wr.grownBy W' (some g)) => hbk.out.keep (Kp2.grown hG hbk.out.lt hrow))
      have Hnx := hid hnx
      clear hbx hg hiff hnx hrow
      generalize hx : low s / 65536 = x at *
      generalize hll : len s = L at *
      have Hll := hid hll
      clear hx hll
      gi_wp2_with fail
      refine ⟨trivial, rfl, (callsIn_wide.2 HC.out).mono ?_⟩
      rintro e w1 ⟨rfl, hb1, hg1⟩
      obtain ⟨fn, tmps, assign, body, hy, hR⟩ := HY.out s x w1 (HI'.out w1 hb1 hg1) (HBk'.out w1 hg1)
      have HR := hid hR
      clear hR hb1 hg1 HC HI' HBk' c0 d0 d1 d2 e0 e1 e2 hj hbk
      gi_wp2
      refine ⟨rfl, HR.out.mono ?_⟩
      rintro e W2 (⟨rfl, ho, hk⟩ | ⟨rfl, c, hf, _⟩)
      · have Hj := hid (HO.out _ _ _ ho)
        have Hk := hid hk
        obtain ⟨_, ⟨u2, hg2⟩, _, _, ⟨l5, l6⟩, _⟩ := HJ.out _ _ Hj.out
        have hm2 := lenAt_eq (hg2.cell 2)
        have Hm2 := hid hm2
        clear ho hk hy HR hg2 hm2
        gi_wp2
        go_roundw
        case rel => exact ⟨s + 1, Hj.out, Hk.out⟩
        case measure => rw [Hm.out, Hm2.out, Hnx.out]; rw [Hnx.out] at l5 l6; omega
      · exact hf.elim
    · have hsN : s = N := by omega
      subst hsN
      have hl : 65536 ≤ len s := by
        have : ¬ len s < 65536 := fun h => hlt (hiff.2 h)
        omega
      have hl' : decide (len s < 65536) = false := decide_eq_false (by omega)
      have HDn := hid (HD.out wr hj.out)
      clear hbx hg hiff hj
      generalize len s = L at *
      gi_wp2
      refine ⟨trivial, ?_⟩
      gi_wp2
      refine ⟨fun _ h => (by cases h), ?_⟩
      gi_wp2
      go_end0
      exact ⟨⟨_, rfl⟩, .inl ⟨HDn.out, hbk.out⟩⟩
theorem backward_calls (v : Value) (w : World) (a : Option Addr) (n cap : Nat) (hv : v = .slice a n cap) :
    Calls Tryd.prog 89 #[v] w fun e w' => e = .returned (.func (.func 100) #[] #[.pointer (some ⟨w.heap.size, 0, none⟩)]) ∧ w' = w.alloc (.cells #[v] 22) := by
  subst hv
  have hmf : ∀ (fn : Fn) (first cap : Array Value) (w : World), (Instr.makeFunc fn first cap).run Tryd.prog w = .ok (.func fn first cap) w := fun _ _ _ _ => rfl
  go_enter Tryd.func89, Tryd.ntmps89
  go_wp2
  go_ret
  exact ⟨rfl, rfl⟩
set_option maxHeartbeats 1000000 in
/-- The iterator from the last element down. J j: j elements were yielded and taken; I j (i, x): the element x at i is yielded now. -/
theorem backward1_in {r0 : Loop} {rc : Code → Loop} {B bx k : Nat} {g cap : Nat} (x : Nat → Int)
    (I O : Nat → Nat × Int → World → Prop) (X : Nat → Nat × Int → Code → World → Prop) (J : Nat → World → Prop) (Xn : Code → World → Prop)
    (hJ : ∀ j W, J j W → Blk W bx #[.slice (some ⟨g, 0, none⟩) k cap] 22 ∧ j < k ∧ W.cell? ⟨g, k - 1 - j, none⟩ = some (.int .u8 (x j)))
    (hI : ∀ j W, J j W → I j (k - 1 - j, x j) W) (hO : ∀ j y W, O j y W → J (j + 1) W) (hX : ∀ j y c W, X j y c W → Xn c W) (hk : k ≤ 100000)
    (hY : ∀ j y W, I j y W → Bk B r0 W → YieldAt Fence.wide 0 Tryd.prog (B + 1) #[.int .i64 (y.1 : Int), .int .u8 y.2] W fun e W' =>
      (e = .returned (.bool true) ∧ O j y W' ∧ Bk B r0 W') ∨ (e = .returned (.bool false) ∧ ∃ c, X j y c W' ∧ Bk B (rc c) W'))
    (W : World) (h0 : J 0 W) (hb : Bk B r0 W) :
    CallsIn Fence.wide 0 Tryd.prog 100 #[.func (.yield (B + 1)) #[] #[], .pointer (some ⟨bx, 0, none⟩)] W fun e W' => (∃ v, e = .returned v) ∧ ((False ∧ Bk B r0 W') ∨ ∃ c, Xn c W' ∧ Bk B (rc c) W') := by
  have H0 := hid h0
  have HBk := hid hb
  have HY := hid hY
  have HI := hid hI
  have HO := hid hO
  have HX := hid hX
  have HJ := hid hJ
  obtain ⟨hbx, hk0, _⟩ := hJ 0 W h0
  have c0 := hbx.cell 0
  simp only [List.getElem?_toArray, List.getElem?_cons_zero] at c0
  clear hY hI hO hX hJ h0 hb hbx
  refine callsIn_of_wp Tryd.func100 rfl trivial ?_ rfl
  simp only [Tryd.ntmps100, List.size_toArray, List.length_cons, List.length_nil, Nat.reduceAdd, Nat.reduceSub, Array.replicate_succ, Array.replicate_zero, List.push_toArray, List.append_toArray, List.nil_append, List.cons_append]
  gi_wp2
  gi_loopw [3] (fun p wr => ∃ j i : Nat, Hid (i + 1 + j = k) ∧ p = .int .i64 (i : Int) ∧ Hid (J j wr) ∧ Hid (Bk B r0 wr)) (fun p _ => (intOf p).toNat)
  case atStart => exact ⟨0, k - 1, (by unfold Hid; omega), by go_num, H0.out, HBk.out⟩
  case round =>
    obtain ⟨j, i, hi, rfl, hj, hbk⟩ := hrel
    obtain ⟨hbx, hjk, hcell⟩ := HJ.out j wr hj.out
    have hi' := hi.out
    rw [show k - 1 - j = i by omega] at hcell
    have HI' : Hid (I j (i, x j) wr) := by have := HI.out j wr hj.out; rwa [show k - 1 - j = i by omega] at this
    have c0 := hbx.cell 0
    simp only [List.getElem?_toArray, List.getElem?_cons_zero] at c0
    obtain ⟨fn, tmps, assign, body, hy, hR⟩ := HY.out j (i, x j) wr HI'.out hbk.out
    dsimp only at hy
    have HR := hid hR
    have hik : (i : Int) < (k : Int) := by omega
    clear hR hbx
    generalize hxj : x j = xj at *
    clear hxj
    gi_wp2
    refine ⟨rfl, HR.out.mono ?_⟩
    rintro e W2 (⟨rfl, ho, hkk⟩ | ⟨rfl, c, hx, hkk⟩)
    · have Hj := hid (HO.out _ _ _ ho)
      have Hk := hid hkk
      have hj2 := (HJ.out _ _ Hj.out).2.1
      obtain ⟨i', rfl⟩ : ∃ i', i = i' + 1 := ⟨i - 1, by omega⟩
      clear ho hkk hy HR c0 hcell HI' hj hbk
      gi_wp2
      go_roundw
      case rel => exact ⟨j + 1, i', (by unfold Hid; omega), by go_num, Hj.out, Hk.out⟩
      case measure => simp [intOf]
    · have Hx := hid (HX.out _ _ _ _ hx)
      have Hk := hid hkk
      clear hx hkk hy HR
      gi_wp2
      refine bodyPost_ret (results_none rfl _ _ _) rfl ?_
      exact ⟨⟨_, rfl⟩, .inr ⟨c, Hx.out, Hk.out⟩⟩
/-- What the carry's loop keeps. -/
structure CY (w : World) (base g cap k b1 b2 v j u : Nat) (W : World) : Prop where
  o : OwB base W (.slice (some ⟨g, 0, none⟩) k cap) (st (k - j) j u)
  n : v + 1 = (u + 1) * 256 ^ j
  jk : j < k
  c1 : Blk W b1 #[.slice (some ⟨g, 0, none⟩) k cap] 22
  c2 : Blk W b2 #[.slice (some ⟨g, 0, none⟩) k cap] 22
  gr : w.grownBy W (some g)
variable {w : World} {base g cap k b1 b2 v j u : Nat} {W W' : World}
theorem CY.cell (h : CY w base g cap k b1 b2 v j u W) : W.cell? ⟨g, k - 1 - j, none⟩ = some (.int .u8 ((u % 256 : Nat) : Int)) ∧ W.frozen? ⟨g, k - 1 - j, none⟩ = false := by
  have hj := h.jk
  have hl : k = (st (k - j) j u).length := by rw [st_len]; omega
  have := h.o.cellAt hl (k - 1 - j) (by omega)
  obtain ⟨m, hm⟩ : ∃ m, k - j = m + 1 := ⟨k - j - 1, by omega⟩
  rw [hm, show k - 1 - j = m by omega, st_get] at this
  rw [show k - 1 - j = m by omega]
  exact this
theorem CY.put (h : CY w base g cap k b1 b2 v j u W) {l : Nat} {o : Obj} (hl : W.heap[l]? = some o) (ho : o.isCells = false) (hw : w.heap.size ≤ l) (o' : Obj) : CY w base g cap k b1 b2 v j u (W.putObj l o') :=
  ⟨Ow.put h.o hl ho o', h.n, h.jk, h.c1.put hl ho o', h.c2.put hl ho o', ⟨h.gr.os, h.gr.tape, h.gr.output, by simpa using h.gr.size, fun i hi hne => (World.putObj_heap_other (by omega)).trans (h.gr.block i hi hne)⟩⟩
theorem CY.later (h : CY w base g cap k b1 b2 v j u W) (hb : Below W.heap.size W W') : CY w base g cap k b1 b2 v j u W' :=
  ⟨h.o.later hb, h.n, h.jk, h.c1.later hb, h.c2.later hb, grown_thenX h.gr hb⟩
theorem own_blk {t : TypeId} {xs : List Int} {vs : Array Value} {b : Nat} (h : OwB base W (.slice (some ⟨g, 0, none⟩) k cap) xs) (hB : Blk W b vs t) (ht : t ≠ 5) : g ≠ b := by
  rintro rfl
  have h' : W.ownsRow base 5 1 (.slice (some ⟨g, 0, none⟩) k cap) xs.length (xs.map (Value.int .u8)) := h
  rcases h'.2 with ⟨h0, _⟩ | ⟨g', c', cur, h0, _, hgb, _⟩
  · cases h0
  · cases h0
    have := (show W.heap[g]? = _ from hB).symm.trans hgb
    simp at this
    exact ht this.2
/-- A byte that is 255 becomes 0. -/
theorem CY.next (h : CY w base g cap k b1 b2 v j u W) (hv : v + 1 < 256 ^ k) (hb : u % 256 = 255) : CY w base g cap k b1 b2 v (j + 1) (u / 256) (W.setCell ⟨g, k - 1 - j, none⟩ (.int .u8 0)) := by
  have hj := h.jk
  have hl : k = (st (k - j) j u).length := by rw [st_len]; omega
  obtain ⟨ho, hg⟩ := h.o.set hl (k - 1 - j) 0
  have hn := st_step h.n hb
  have hj2 := st_some hn hv
  refine ⟨?_, hn, hj2, h.c1.kept hg (by simpa using own_blk h.o h.c1 (by decide)), h.c2.kept hg (by simpa using own_blk h.o h.c2 (by decide)), grown_same h.gr hg⟩
  obtain ⟨m, hm⟩ : ∃ m, k - j = m + 1 := ⟨k - j - 1, by omega⟩
  rw [hm, show k - 1 - j = m by omega, st_next] at ho
  rw [show k - (j + 1) = m by omega, show k - 1 - j = m by omega]
  exact ho
theorem CY.done (h : CY w base g cap k b1 b2 v j u W) (hb : u % 256 ≠ 255) : OwB base (W.setCell ⟨g, k - 1 - j, none⟩ (.int .u8 (((u % 256 : Nat) : Int) + 1))) (.slice (some ⟨g, 0, none⟩) k cap) (digs k (v + 1)) ∧ w.grownBy (W.setCell ⟨g, k - 1 - j, none⟩ (.int .u8 (((u % 256 : Nat) : Int) + 1))) (some g) := by
  have hj := h.jk
  have hl : k = (st (k - j) j u).length := by rw [st_len]; omega
  obtain ⟨ho, hg⟩ := h.o.set hl (k - 1 - j) (((u % 256 : Nat) : Int) + 1)
  refine ⟨?_, grown_same h.gr hg⟩
  obtain ⟨m, hm⟩ : ∃ m, k - j = m + 1 := ⟨k - j - 1, by omega⟩
  rw [hm, show k - 1 - j = m by omega, st_done m j u hb, show m + 1 + j = k by omega, ← h.n] at ho
  rw [show k - 1 - j = m by omega]
  exact ho
theorem CY.up {v j : Nat} (h : CY w base g cap k b1 b2 v (j + 1) (v / 256 ^ j / 256) W) : CY w base g cap k b1 b2 v (j + 1) (v / 256 ^ (j + 1)) W := by
  rwa [Nat.div_div_eq_div_mul, ← Nat.pow_succ] at h
theorem grown_put {l : Nat} (h : w.grownBy W (some g)) (hw : w.heap.size ≤ l) (o' : Obj) : w.grownBy (W.putObj l o') (some g) :=
  ⟨h.os, h.tape, h.output, by simpa using h.size, fun i hi hne => (World.putObj_heap_other (by omega)).trans (h.block i hi hne)⟩
set_option maxHeartbeats 2000000 in
theorem carry_calls (base g cap k v : Nat) (w : World) (h : OwB base w (.slice (some ⟨g, 0, none⟩) k cap) (digs k v)) (hv : v + 1 < 256 ^ k) (hk : k ≤ 100000) :
    Calls Tryd.prog 66 #[.slice (some ⟨g, 0, none⟩) k cap] w fun e w' => (∃ r, e = .returned r) ∧ OwB base w' (.slice (some ⟨g, 0, none⟩) k cap) (digs k (v + 1)) ∧ w.grownBy w' (some g) := by
  have hgw := (h.block g rfl).2
  have hk1 : 0 < k := by
    rcases Nat.eq_zero_or_pos k with h0 | h0
    · subst h0; simp at hv
    · exact h0
  have hC : CY w base g cap k w.heap.size (w.heap.size + 1) v 0 (v / 256 ^ 0) ((w.alloc (.cells #[.slice (some ⟨g, 0, none⟩) k cap] 22)).alloc (.cells #[.slice (some ⟨g, 0, none⟩) k cap] 22)) := by
    refine ⟨?_, by simp, hk1, (Blk.new _ _ _).alloc _, ?_, grown_same (World.grownBy_alloc w _ _) (World.grownBy_alloc _ _ _)⟩
    · rw [Nat.sub_zero, Nat.pow_zero, Nat.div_one, st_zero]; exact (h.alloc _).alloc _
    · have := Blk.new (w.alloc (.cells #[.slice (some ⟨g, 0, none⟩) k cap] 22)) #[.slice (some ⟨g, 0, none⟩) k cap] 22
      rwa [World.size_alloc] at this
  have HC := hid hC
  clear hC h
  refine calls_of_marks Tryd.func66 rfl ?_
  simp only [Tryd.ntmps66, List.size_toArray, List.length_cons, List.length_nil, Nat.reduceAdd, Nat.reduceSub, Array.replicate_succ, Array.replicate_zero, List.push_toArray, List.append_toArray, List.nil_append, List.cons_append]
  go_wp2_with fail
  go_step3
  go_wp2_with fail
  go_step3
  go_wp2_with fail
  refine (backward_calls _ _ _ _ _ rfl).mono ?_
  rintro e w1 ⟨rfl, rfl⟩
  go_wp2_with fail
  have hsz : ((w.alloc (.cells #[.slice (some ⟨g, 0, none⟩) k cap] 22)).alloc (.cells #[.slice (some ⟨g, 0, none⟩) k cap] 22)).heap.size = w.heap.size + 2 := by simp
  generalize (w.alloc (.cells #[.slice (some ⟨g, 0, none⟩) k cap] 22)).alloc (.cells #[.slice (some ⟨g, 0, none⟩) k cap] 22) = W0 at *
  have hsz' : w.heap.size + 2 = W0.heap.size := hsz.symm
  clear hsz
  refine wp_range (α := Nat × Int) (σ := Nat) (gf := 100) (lb := #[.pointer (some ⟨w.heap.size + 1, 0, none⟩)]) rfl (enters_of Tryd.func100 (by kernel_rfl) rfl) (fun y => #[.int .i64 (y.1 : Int), .int .u8 y.2]) (fun _ => rfl)
    (fun j y W => y = (k - 1 - j, ((v / 256 ^ j % 256 : Nat) : Int)) ∧ CY w base g cap k w.heap.size (w.heap.size + 1) v j (v / 256 ^ j) W)
    (fun j _ W => CY w base g cap k w.heap.size (w.heap.size + 1) v (j + 1) (v / 256 ^ (j + 1)) W)
    (fun _ _ c W => c = .exit 0 ∧ OwB base W (.slice (some ⟨g, 0, none⟩) k cap) (digs k (v + 1)) ∧ w.grownBy W (some g))
    (fun _ => False)
    (fun c W => c = .exit 0 ∧ OwB base W (.slice (some ⟨g, 0, none⟩) k cap) (digs k (v + 1)) ∧ w.grownBy W (some g))
    (fun j y W o o' h hl => ⟨h.1, h.2.put hl rfl (by omega) _⟩) (fun j y W o o' h hl => h.put hl rfl (by omega) _) (fun j y c W o o' h hl => ⟨h.1, Ow.put h.2.1 hl rfl _, grown_put h.2.2 (by omega) _⟩)
    ?_ ?assign ?body ?iter (fun _ _ _ h _ => h.elim) ?stop
  case assign =>
    intro y W K hK
    gi_wp2
    exact hK
  case body =>
    rintro j y W hlt ⟨rfl, hcy⟩
    obtain ⟨hcell, hfr⟩ := hcy.cell
    have hjk := hcy.jk
    have HCY := hid hcy
    have c1 := hcy.c1.cell 0
    simp only [List.getElem?_toArray, List.getElem?_cons_zero] at c1
    obtain ⟨i, hi⟩ : ∃ i, i = k - 1 - j := ⟨_, rfl⟩
    have hik : (i : Int) < (k : Int) := by omega
    rw [← hi] at hcell hfr
    have Hi := hid hi
    have hbd : v / 256 ^ j % 256 < 256 := Nat.mod_lt _ (by decide)
    dsimp only
    rw [← hi]
    clear hcy hi
    by_cases h255 : v / 256 ^ j % 256 = 255
    · have HN := hid (HCY.out.next hv h255).up
      have hb : (((v / 256 ^ j % 256 : Nat) : Int)) = 255 := by omega
      rw [hb] at *
      rw [← Hi.out] at HN
      gi_wp2
      exact ⟨Kp2.set _ _ _ _ ⟨by omega, by omega⟩, HN.out⟩
    · have HN := hid (HCY.out.done h255)
      have hb : (((v / 256 ^ j % 256 : Nat) : Int) == 255) = false := beq_eq_false_iff_ne.2 (by omega)
      have hb2 : (((v / 256 ^ j % 256 : Nat) : Int)) < 255 := by omega
      have hb3 : 0 ≤ (((v / 256 ^ j % 256 : Nat) : Int)) := by omega
      rw [← Hi.out] at HN
      generalize (((v / 256 ^ j % 256 : Nat) : Int)) = b at *
      have hb4 : (b + 1) % 256 = b + 1 := by omega
      gi_wp2
      exact ⟨Kp2.set _ _ _ _ ⟨by omega, by omega⟩, rfl, HN.out.1, HN.out.2⟩
  case iter =>
    intro r0 rc W1 hg1 hsz1 hbk hY
    refine backward1_in (fun j => ((v / 256 ^ j % 256 : Nat) : Int)) _ _ _ (fun j W => CY w base g cap k w.heap.size (w.heap.size + 1) v j (v / 256 ^ j) W) _ (g := g) (cap := cap) (k := k) ?h1 ?h2 ?h3 ?h4 hk hY W1 ?h5 hbk
    case h1 => exact fun j W h => ⟨h.c2, h.jk, h.cell.1⟩
    case h2 => exact fun j W h => ⟨rfl, h⟩
    case h3 => exact fun j y W h => h
    case h4 => exact fun j y c W h => h
    case h5 => exact HC.out.later ⟨hg1.os, hg1.tape, hg1.output, hg1.size, fun k hk => hg1.block k hk (by simp)⟩
  case stop =>
    rintro r c W o ⟨rfl, ho, hgr⟩ hbk
    have ho2 := Ow.put ho hbk.l rfl (.loop o)
    have hg2 := grown_put (l := W0.heap.size + 1) hgr (by omega) (.loop o)
    have hd : (W.putObj (W0.heap.size + 1) (.loop o)).heap[W0.heap.size]? = some (.deferred (some [])) := (World.putObj_heap_other (by omega)).trans hbk.d
    clear ho hgr hbk
    generalize W.putObj (W0.heap.size + 1) (.loop o) = W5 at *
    have HO := hid ho2
    have HG := hid hg2
    have HD := hid hd
    clear ho2 hg2 hd HC
    go_wp2
    refine leaves_mark HD.out ?_
    exact ⟨.tuple #[], by simp [results, Tryd.results66, go_sem], ⟨_, rfl⟩, Ow.put HO.out HD.out rfl _, grown_put HG.out (by omega) _⟩
end Go.Proofs.YthecfboplfmdmaaDoor.Shf
