/- The draws: the source of bytes that the model's draws read, one number after the other: each number that is asked for lies where it has to. Conditions: the source is a block of the call's own, and not too many numbers were drawn. -/
import Derived.Test.YtodfkicmmcfkaaaSli
import Derived.Laws.Rows
import Derived.Laws.Tables
import Derived.Deep.QuietTactic
import Derived.BigQuiet
namespace Go.Proofs.Ytodfkicmmcfkaaa.Src
open Go.ChangeShapes Go.WideShapes Go.ChangeAt Go.RowKit Go.Proofs.Ytodfkicmmcfkaaa.Num Go.Proofs.Ytodfkicmmcfkaaa.Sli

/-- Block g is a source over the bytes bs, which lie below; at numbers were drawn. -/
def Src (w0 w : World) (g : Nat) (a : Option Addr) (cap : Nat) (bs : List Int) (at' : Nat) : Prop :=
  w0.heap.size ≤ g ∧ Below w0.heap.size w0 w ∧ Sl .u8 w0 (.slice a bs.length cap) bs ∧ (∀ x ∈ bs, 0 ≤ x ∧ x ≤ 255) ∧ bs.length ≤ 1048576 ∧ w.heap[g]? = some (.cells #[.slice a bs.length cap, .int .i64 at'] 74 (0, 0))

theorem getD_bd {bs : List Int} (h : ∀ x ∈ bs, 0 ≤ x ∧ x ≤ 255) (j : Nat) (hj : j < bs.length) : 0 ≤ bs.getD j 0 ∧ bs.getD j 0 ≤ 255 := by
  rw [List.getD_eq_getElem?_getD, List.getElem?_eq_getElem hj, Option.getD_some]
  exact h _ (List.getElem_mem hj)

theorem src_step {w0 w : World} {g : Nat} {a : Option Addr} {cap : Nat} {bs : List Int} {at' : Nat} (h : Src w0 w g a cap bs at') :
    Src w0 (w.setCell ⟨g, 1, none⟩ (.int .i64 (at' + 1))) g a cap bs (at' + 1) ∧ w.grownBy (w.setCell ⟨g, 1, none⟩ (.int .i64 (at' + 1))) (some g) := by
  obtain ⟨h1, h2, h3, h4, h5, h6⟩ := h
  have hn := heap_setCell_same w g 1 _ _ (.int .i64 (at' + 1)) h6
  refine ⟨⟨h1, h2.setCell (p := ⟨g, 1, none⟩) h1 _, h3, h4, h5, ?_⟩, ⟨rfl, rfl, rfl, ?_, ?_⟩⟩
  · rw [hn]; simp
  · simp [World.setCell]
  · intro k _ hne
    exact heap_setCell_other _ _ _ _ (fun e => hne (by rw [e]))

theorem src_drew {w0 w : World} {g : Nat} {a : Option Addr} {cap : Nat} {bs : List Int} {at' : Nat} (h : Src w0 w g a cap bs at') (n : Nat) : Src w0 (w.drewN n) g a cap bs at' :=
  ⟨h.1, below_drewN h.2.1 n, h.2.2.1, h.2.2.2.1, h.2.2.2.2.1, h.2.2.2.2.2⟩
theorem grown_drew {w w' : World} {r : Option Nat} (h : w.grownBy w' r) (n : Nat) : w.grownBy (w'.drewN n) r := ⟨h.os, h.tape, h.output, h.size, h.block⟩

theorem wraps1 (x0 q : Int) (q0 : 0 ≤ q) (q1 : q ≤ 100000) (d0 : 0 ≤ x0 ∧ x0 ≤ 255) :
    wrap64 q = q ∧ wrap64 (q * 37) = q * 37 ∧ wrap64 (x0 + q * 37) = x0 + q * 37 ∧ 0 ≤ x0 + q * 37 ∧ x0 + q * 37 ≤ 3700255 := by
  refine ⟨wrap_of (by omega) (by omega), wrap_of (by omega) (by omega), wrap_of (by omega) (by omega), by omega, by omega⟩
theorem wraps2 (at' : Nat) (V x1 : Int) (hat : at' ≤ 100000) (q0 : 0 ≤ V) (q1 : V ≤ 3700255) (d1 : 0 ≤ x1 ∧ x1 ≤ 255) :
    wrap64 (V * 251) = V * 251 ∧ wrap64 (x1 * 13) = x1 * 13 ∧ wrap64 (V * 251 + x1 * 13) = V * 251 + x1 * 13 ∧
    wrap64 (V * 251 + x1 * 13 + at') = V * 251 + x1 * 13 + at' ∧ 0 ≤ V * 251 + x1 * 13 + at' ∧ V * 251 + x1 * 13 + at' ≤ 1000000000 := by
  refine ⟨wrap_of (by omega) (by omega), wrap_of (by omega) (by omega), wrap_of (by omega) (by omega), wrap_of (by omega) (by omega), by omega, by omega⟩
theorem wraps3 (W x2 : Int) (q0 : 0 ≤ W) (q1 : W ≤ 1000000000) (d2 : 0 ≤ x2 ∧ x2 ≤ 255) :
    wrap64 (W * 257) = W * 257 ∧ wrap64 (W * 257 + x2) = W * 257 + x2 ∧ 0 ≤ W * 257 + x2 := by
  refine ⟨wrap_of (by omega) (by omega), wrap_of (by omega) (by omega), by omega⟩

set_option maxHeartbeats 1000000 in
theorem l1Next_none (w0 w : World) (g : Nat) (a : Option Addr) (cap : Nat) (at' : Nat) (n : Int) (h : Src w0 w g a cap [] at') (hat : at' ≤ 100000) (hn1 : 1 ≤ n) (hn2 : n ≤ 2147483648) :
    Calls Try.prog 33 #[.pointer (some ⟨g, 0, none⟩), .int .i64 n] w fun e w' => ∃ r : Int, e = .returned (.int .i64 r) ∧ 0 ≤ r ∧ r < n ∧ Src w0 w' g a cap [] (at' + 1) ∧ w.grownBy w' (some g) := by
  have hs := src_step h
  have hc0 : w.cell? ⟨g, 0, none⟩ = some (.slice a 0 cap) := by rw [cell_of_row w g 0 _ _ _ h.2.2.2.2.2]; rfl
  have hc1 : w.cell? ⟨g, 1, none⟩ = some (.int .i64 at') := by rw [cell_of_row w g 1 _ _ _ h.2.2.2.2.2]; rfl
  have hf1 := frozen_of_row w g 1 _ _ h.2.2.2.2.2
  have HS := (show Hid _ from hs)
  clear hs h
  go_enter Try.func33, Try.ntmps33
  go_wp2
  go_ret
  exact ⟨_, rfl, Int.emod_nonneg _ (by omega), Int.emod_lt_of_pos _ (by omega), HS.out.1, HS.out.2⟩

set_option maxHeartbeats 2000000 in
theorem l1Next_some (w0 w : World) (g b off cap : Nat) (bs : List Int) (at' : Nat) (n : Int) (h : Src w0 w g (some ⟨b, off, none⟩) cap bs at') (hpos : 0 < bs.length) (hat : at' ≤ 100000) (hn1 : 1 ≤ n) (hn2 : n ≤ 2147483648) :
    Calls Try.prog 33 #[.pointer (some ⟨g, 0, none⟩), .int .i64 n] w fun e w' => ∃ r : Int, e = .returned (.int .i64 r) ∧ 0 ≤ r ∧ r < n ∧ Src w0 w' g (some ⟨b, off, none⟩) cap bs (at' + 1) ∧ w.grownBy w' (some g) := by
  have hs := src_step h
  have hn0 : n ≠ 0 := by omega
  have hnp : 0 < n := by omega
  have hc0 : w.cell? ⟨g, 0, none⟩ = some (.slice (some ⟨b, off, none⟩) bs.length cap) := by rw [cell_of_row w g 0 _ _ _ h.2.2.2.2.2]; rfl
  have hc1 : w.cell? ⟨g, 1, none⟩ = some (.int .i64 at') := by rw [cell_of_row w g 1 _ _ _ h.2.2.2.2.2]; rfl
  have hf1 := frozen_of_row w g 1 _ _ h.2.2.2.2.2
  have hlen := h.2.2.2.2.1
  obtain ⟨a', cap', hv, hsl⟩ := h.2.2.1
  obtain ⟨b', off', ha', hb, hcells⟩ := hsl (by intro e; rw [e] at hpos; simp at hpos)
  simp at hv
  obtain ⟨hv1, hv2⟩ := hv
  subst hv1; simp at ha'
  obtain ⟨e1, e2⟩ := ha'
  subst e1 e2
  have hcw : ∀ i, i < bs.length → w.cell? ⟨b, off + i, none⟩ = some (.int .u8 (bs.getD i 0)) := fun i hi => (h.2.1.cell (p := ⟨b, off + i, none⟩) hb).trans (hcells i hi)
  have hbg : b ≠ g := by have := h.1; omega
  have j0 := Nat.mod_lt at' hpos
  have j1 := Nat.mod_lt (at' + 1) hpos
  have j2 := Nat.mod_lt (at' + 2) hpos
  have c0 := hcw _ j0
  have c1 := hcw _ j1
  have c2 := hcw _ j2
  have d0 := getD_bd h.2.2.2.1 _ j0
  have d1 := getD_bd h.2.2.2.1 _ j1
  have d2 := getD_bd h.2.2.2.1 _ j2
  have m0 : ((at' : Int) % (bs.length : Int)) = ((at' % bs.length : Nat) : Int) := by simp
  have m1 : (((at' : Int) + 1) % (bs.length : Int)) = (((at' + 1) % bs.length : Nat) : Int) := by simp
  have m2 : (((at' : Int) + 2) % (bs.length : Int)) = (((at' + 2) % bs.length : Nat) : Int) := by simp
  have m3 : (((at' : Int) + 1).tmod (bs.length : Int)) = (((at' + 1) % bs.length : Nat) : Int) := by rw [Int.tmod_eq_emod_of_nonneg (by omega), m1]
  have m4 : (((at' : Int) + 2).tmod (bs.length : Int)) = (((at' + 2) % bs.length : Nat) : Int) := by rw [Int.tmod_eq_emod_of_nonneg (by omega), m2]
  obtain ⟨q, hq⟩ : ∃ q, (at' : Int) / (bs.length : Int) = q := ⟨_, rfl⟩
  have q0 : 0 ≤ q := by rw [← hq]; exact Int.ediv_nonneg (by omega) (by omega)
  have q1 : q ≤ 100000 := by have := Int.ediv_le_self (bs.length : Int) (show (0 : Int) ≤ at' by omega); rw [hq] at this; omega
  have hk0 : ((bs.length : Int) == 0) = false := beq_eq_false_iff_ne.2 (by omega)
  have HS := (show Hid _ from hs)
  clear hs h hcw hcells hsl hv2
  generalize bs.getD (at' % bs.length) 0 = x0 at *
  generalize bs.getD ((at' + 1) % bs.length) 0 = x1 at *
  generalize bs.getD ((at' + 2) % bs.length) 0 = x2 at *
  generalize at' % bs.length = i0 at *
  generalize (at' + 1) % bs.length = i1 at *
  generalize (at' + 2) % bs.length = i2 at *
  have HP : Hid (n ≠ 0 ∧ 0 < n) := ⟨hn0, hnp⟩
  clear hn0 hnp
  obtain ⟨v1, v2, v3, v4, v5⟩ := wraps1 x0 q q0 q1 d0
  by_cases h200 : 200 < n
  · by_cases h60 : 60000 < n
    · go_enter Try.func33, Try.ntmps33
      go_wp2
      go_quiet (fail)
      generalize x0 + q * 37 = V at *
      clear v1 v2 v3 q0 q1 d0 m0
      obtain ⟨u2, u3, u4, u5, u6, u7⟩ := wraps2 at' V x1 hat v4 v5 d1
      go_wp2
      go_quiet (fail)
      generalize V * 251 + x1 * 13 + (at' : Int) = W at *
      clear u2 u3 u4 u5 d1 m1 v4 v5
      obtain ⟨t2, t3, t4⟩ := wraps3 W x2 u6 u7 d2
      go_wp2
      go_quiet (fail)
      go_wp2
      go_ret
      exact ⟨_, rfl, Int.emod_nonneg _ HP.out.1, Int.emod_lt_of_pos _ HP.out.2, src_drew HS.out.1 _, grown_drew HS.out.2 _⟩
    · go_enter Try.func33, Try.ntmps33
      go_wp2
      go_quiet (fail)
      generalize x0 + q * 37 = V at *
      clear v1 v2 v3 q0 q1 d0 m0
      obtain ⟨u2, u3, u4, u5, u6, u7⟩ := wraps2 at' V x1 hat v4 v5 d1
      go_wp2
      go_quiet (fail)
      go_wp2
      go_ret
      exact ⟨_, rfl, Int.emod_nonneg _ HP.out.1, Int.emod_lt_of_pos _ HP.out.2, src_drew HS.out.1 _, grown_drew HS.out.2 _⟩
  · go_enter Try.func33, Try.ntmps33
    go_wp2
    go_quiet (fail)
    go_wp2
    go_ret
    exact ⟨_, rfl, Int.emod_nonneg _ HP.out.1, Int.emod_lt_of_pos _ HP.out.2, src_drew HS.out.1 _, grown_drew HS.out.2 _⟩

/-- A number that is asked for is one of 0 to n - 1; one more was drawn. -/
theorem l1Next_calls (w0 w : World) (g : Nat) (a : Option Addr) (cap : Nat) (bs : List Int) (at' : Nat) (n : Int) (h : Src w0 w g a cap bs at') (hat : at' ≤ 100000) (hn1 : 1 ≤ n) (hn2 : n ≤ 2147483648) :
    Calls Try.prog 33 #[.pointer (some ⟨g, 0, none⟩), .int .i64 n] w fun e w' => ∃ r : Int, e = .returned (.int .i64 r) ∧ 0 ≤ r ∧ r < n ∧ Src w0 w' g a cap bs (at' + 1) ∧ w.grownBy w' (some g) := by
  by_cases hne : bs = []
  · subst hne
    exact l1Next_none w0 w g a cap at' n h hat hn1 hn2
  · obtain ⟨a', cap', hv, hsl⟩ := h.2.2.1
    obtain ⟨b, off, ha, _, _⟩ := hsl hne
    simp at hv
    obtain ⟨hv1, hv2⟩ := hv
    subst hv1
    subst ha
    exact l1Next_some w0 w g b off cap bs at' n h (by cases bs with | nil => exact absurd rfl hne | cons _ _ => simp) hat hn1 hn2

theorem l1Next_low (w0 w : World) (g : Nat) (a : Option Addr) (cap : Nat) (bs : List Int) (at' : Nat) (n : Int) (h : Src w0 w g a cap bs at') (hat : at' ≤ 100000) (hn : n < 1) :
    Calls Try.prog 33 #[.pointer (some ⟨g, 0, none⟩), .int .i64 n] w fun e w' => e = .returned (.int .i64 0) ∧ Src w0 w' g a cap bs (at' + 1) ∧ w.grownBy w' (some g) := by
  have hs := src_step h
  have hc1 : w.cell? ⟨g, 1, none⟩ = some (.int .i64 at') := by rw [cell_of_row w g 1 _ _ _ h.2.2.2.2.2]; rfl
  have hf1 := frozen_of_row w g 1 _ _ h.2.2.2.2.2
  have HS := (show Hid _ from hs)
  clear hs h
  go_enter Try.func33, Try.ntmps33
  go_wp2
  go_ret
  exact ⟨rfl, HS.out.1, HS.out.2⟩
/-- A number that is asked for, however many there are. -/
theorem l1Next_any (w0 w : World) (g : Nat) (a : Option Addr) (cap : Nat) (bs : List Int) (at' : Nat) (n : Int) (h : Src w0 w g a cap bs at') (hat : at' ≤ 100000) (hn2 : n ≤ 2147483648) :
    Calls Try.prog 33 #[.pointer (some ⟨g, 0, none⟩), .int .i64 n] w fun e w' => ∃ r : Int, e = .returned (.int .i64 r) ∧ 0 ≤ r ∧ (r < n ∨ r = 0) ∧ Src w0 w' g a cap bs (at' + 1) ∧ w.grownBy w' (some g) := by
  by_cases hn : n < 1
  · exact (l1Next_low w0 w g a cap bs at' n h hat hn).mono fun e w' ⟨he, h1, h2⟩ => ⟨0, he, Int.le_refl _, Or.inr rfl, h1, h2⟩
  · exact (l1Next_calls w0 w g a cap bs at' n h hat (by omega) hn2).mono fun e w' ⟨r, he, h1, h2, h3, h4⟩ => ⟨r, he, h1, Or.inl h2, h3, h4⟩

theorem src_alloc {w0 w : World} {g : Nat} {a : Option Addr} {cap : Nat} {bs : List Int} {at' : Nat} (h : Src w0 w g a cap bs at') (o : Obj) : Src w0 (w.alloc o) g a cap bs at' := by
  obtain ⟨h1, h2, h3, h4, h5, h6⟩ := h
  have hlt : g < w.heap.size := by
    rcases Nat.lt_or_ge g w.heap.size with hl | hl
    · exact hl
    · rw [show w.heap[g]? = none by simp; omega] at h6; cases h6
  exact ⟨h1, bmore h2 o, h3, h4, h5, by rw [Below.heap_alloc w o g hlt]; exact h6⟩
theorem src_lt {w0 w : World} {g : Nat} {a : Option Addr} {cap : Nat} {bs : List Int} {at' : Nat} (h : Src w0 w g a cap bs at') : g < w.heap.size := by
  obtain ⟨h1, h2, h3, h4, h5, h6⟩ := h
  rcases Nat.lt_or_ge g w.heap.size with hl | hl
  · exact hl
  · rw [show w.heap[g]? = none by simp; omega] at h6; cases h6

theorem l1Pick_calls (w0 w : World) (g : Nat) (a : Option Addr) (cap : Nat) (bs : List Int) (at' b2 t : Nat) (ys : List Int) (h : Src w0 w g a cap bs at') (hat : at' ≤ 100000) (hbg : b2 ≠ g)
    (hrow : w.heap[b2]? = some (.cells (ys.map (Value.int .i64)).toArray t (0, 0))) (hy0 : 0 < ys.length) (hy1 : ys.length ≤ 1000) :
    Calls Try.prog 34 #[.pointer (some ⟨g, 0, none⟩), .slice (some ⟨b2, 0, none⟩) ys.length ys.length] w fun e w' => ∃ r : Int, e = .returned (.int .i64 r) ∧ r ∈ ys ∧ Src w0 w' g a cap bs (at' + 1) ∧ w.grownBy w' (some g) := by
  have hb2 : b2 < w.heap.size := by
    rcases Nat.lt_or_ge b2 w.heap.size with hl | hl
    · exact hl
    · rw [show w.heap[b2]? = none by simp; omega] at hrow; cases hrow
  have H := (show Hid _ from h)
  have Hrow := (show Hid _ from hrow)
  clear h hrow
  go_enter Try.func34, Try.ntmps34
  go_wp2_with fail
  refine (l1Next_calls w0 _ g a cap bs at' _ H.out hat (by omega) (by omega)).mono ?_
  rintro e w1 ⟨r, rfl, hr0, hr1, hs, hg⟩
  obtain ⟨j, rfl⟩ := Int.eq_ofNat_of_zero_le hr0
  have hj : j < ys.length := by omega
  have hc : w1.cell? ⟨b2, j, none⟩ = some (.int .i64 (ys.getD j 0)) := by
    rw [cell_of_row w1 b2 j _ t (0, 0) (by rw [hg.block b2 hb2 (by simpa using hbg)]; exact Hrow.out)]
    simp [hj]
  have Hm : Hid (ys.getD j 0 ∈ ys) := by
    unfold Hid
    rw [List.getD_eq_getElem?_getD, List.getElem?_eq_getElem hj, Option.getD_some]
    exact List.getElem_mem hj
  have Hs := (show Hid _ from hs)
  have Hg := (show Hid _ from hg)
  clear hs hg H Hrow
  generalize ys.getD j 0 = x at *
  go_wp2
  go_ret
  exact ⟨_, rfl, Hm.out, Hs.out, Hg.out⟩

/-- The same over a list that is written out. -/
theorem l1Pick_lit (w0 w : World) (g : Nat) (a : Option Addr) (cap : Nat) (bs : List Int) (at' n t : Nat) (ys : List Int) (cs : Array Value) (h : Src w0 w g a cap bs at') (hat : at' ≤ 100000)
    (hcs : cs = (ys.map (Value.int .i64)).toArray) (hn : ys.length = n) (hy0 : 0 < n) (hy1 : n ≤ 1000) :
    Calls Try.prog 34 #[.pointer (some ⟨g, 0, none⟩), .slice (some ⟨w.heap.size, 0, none⟩) n n] (w.alloc (.cells cs t)) fun e w' => ∃ r : Int, e = .returned (.int .i64 r) ∧ r ∈ ys ∧ Src w0 w' g a cap bs (at' + 1) ∧ (w.alloc (.cells cs t)).grownBy w' (some g) := by
  subst hn hcs
  exact l1Pick_calls w0 _ g a cap bs at' w.heap.size t ys (src_alloc h _) hat (by have := src_lt h; omega) (heap_alloc_new w _) hy0 hy1

theorem l1Signed_calls (w0 w : World) (g : Nat) (a : Option Addr) (cap : Nat) (bs : List Int) (at' : Nat) (m : Int) (h : Src w0 w g a cap bs at') (hat : at' ≤ 100000) (hm0 : 0 ≤ m) (hm1 : m ≤ 1000000000) :
    Calls Try.prog 65 #[.pointer (some ⟨g, 0, none⟩), .int .i64 m] w fun e w' => ∃ r : Int, e = .returned (.int .i64 r) ∧ -m ≤ r ∧ r ≤ m ∧ Src w0 w' g a cap bs (at' + 1) ∧ w.grownBy w' (some g) := by
  have H := (show Hid _ from h)
  clear h
  go_enter Try.func65, Try.ntmps65
  go_wp2_with fail
  refine (l1Next_calls w0 _ g a cap bs at' _ H.out hat (by omega) (by omega)).mono ?_
  rintro e w1 ⟨r, rfl, hr0, hr1, hs, hg⟩
  have Hs := (show Hid _ from hs)
  have Hg := (show Hid _ from hg)
  clear hs hg H
  go_wp2
  go_ret
  exact ⟨_, rfl, by omega, by omega, Hs.out, Hg.out⟩

theorem l1Chance_calls (w0 w : World) (g : Nat) (a : Option Addr) (cap : Nat) (bs : List Int) (at' : Nat) (n : Int) (h : Src w0 w g a cap bs at') (hat : at' ≤ 100000) (hn1 : 1 ≤ n) (hn2 : n ≤ 1000000000) :
    Calls Try.prog 54 #[.pointer (some ⟨g, 0, none⟩), .int .i64 n] w fun e w' => ∃ c : Bool, e = .returned (.bool c) ∧ Src w0 w' g a cap bs (at' + 1) ∧ w.grownBy w' (some g) := by
  have H := (show Hid _ from h)
  clear h
  go_enter Try.func54, Try.ntmps54
  go_wp2_with fail
  refine (l1Next_calls w0 _ g a cap bs at' _ H.out hat (by omega) (by omega)).mono ?_
  rintro e w1 ⟨r, rfl, hr0, hr1, hs, hg⟩
  have Hs := (show Hid _ from hs)
  have Hg := (show Hid _ from hg)
  clear hs hg H
  go_wp2
  go_ret
  exact ⟨_, rfl, Hs.out, Hg.out⟩

theorem l1Source_calls (a : Option Addr) (cap : Nat) (bs : List Int) (w0 w : World) (hb : Below w0.heap.size w0 w) (hsl : Sl .u8 w0 (.slice a bs.length cap) bs) (hbd : ∀ x ∈ bs, 0 ≤ x ∧ x ≤ 255) (hlen : bs.length ≤ 1048576) :
    Calls Try.prog 30 #[.slice a bs.length cap] w fun e w' => ∃ g, e = .returned (.pointer (some ⟨g, 0, none⟩)) ∧ Src w0 w' g a cap bs 0 ∧ w.grownBy w' none := by
  have H1 := (show Hid _ from hb)
  have H2 := (show Hid _ from hsl)
  have H3 := (show Hid _ from hbd)
  have H4 := (show Hid _ from hlen)
  clear hb hsl hbd hlen
  go_enter Try.func30, Try.ntmps30
  go_wp2
  go_ret
  exact ⟨_, rfl, ⟨H1.out.size, bmore H1.out _, H2.out, H3.out, H4.out, heap_alloc_new w _⟩, ⟨rfl, rfl, rfl, by simp, fun k hk _ => Below.heap_alloc w _ k hk⟩⟩
end Go.Proofs.Ytodfkicmmcfkaaa.Src
