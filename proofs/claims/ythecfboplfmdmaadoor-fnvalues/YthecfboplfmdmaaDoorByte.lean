/- The bytes that a decoder reads, what a slot makes of the range: the program's and the model's. -/
import Derived.Test.YthecfboplfmdmaaDoorNxt
namespace Go.Proofs.YthecfboplfmdmaaDoor.Byte
open Go.ChangeShapes Go.WideShapes Go.ChangeAt Go.RowKit Go.Proofs.YthecfboplfmdmaaDoor.Num Go.Proofs.YthecfboplfmdmaaDoor.Sli Go.Proofs.YthecfboplfmdmaaDoor.App Go.Proofs.YthecfboplfmdmaaDoor.Byt Go.Proofs.YthecfboplfmdmaaDoor.CrcM Go.Proofs.YthecfboplfmdmaaDoor.Str Go.Proofs.YthecfboplfmdmaaDoor.Div Go.Proofs.YthecfboplfmdmaaDoor.Dec Go.Proofs.YthecfboplfmdmaaDoor.Blk Go.Proofs.YthecfboplfmdmaaDoor.Nxt

/-- The range behind a slot. -/
def narI (r lo sz tot : Int) : Int := if lo + sz = tot then r - r / tot * lo else r / tot * sz
theorem narI_last {r lo sz tot : Int} (h : lo + sz = tot) : narI r lo sz tot = r - r / tot * lo := if_pos h
theorem narI_in {r lo sz tot : Int} (h : ¬ lo + sz = tot) : narI r lo sz tot = r / tot * sz := if_neg h
theorem mul_bd (u x X : Int) (hu : 0 ≤ u) (hx : 0 ≤ x) (hX : x ≤ X) : 0 ≤ u * x ∧ u * x ≤ u * X := ⟨Int.mul_nonneg hu hx, Int.mul_le_mul_of_nonneg_left hX hu⟩
theorem narI_bd (r lo sz tot : Int) (h1 : 65536 ≤ r) (h2 : r ≤ 16777216) (h3 : 1 ≤ tot) (h4 : tot ≤ 1024) (h5 : 1 ≤ sz) (h6 : 0 ≤ lo) (h7 : lo + sz ≤ tot) :
    64 ≤ narI r lo sz tot ∧ 0 ≤ r / tot * lo ∧ r / tot * lo + narI r lo sz tot ≤ r := by
  obtain ⟨_, b1, _⟩ := unit_bd r tot h1 h2 h3 h4
  have ht : r / tot * tot ≤ r := Int.ediv_mul_le r (by omega)
  have ed : narI r lo sz tot = if lo + sz = tot then r - r / tot * lo else r / tot * sz := rfl
  rw [ed]
  clear ed
  generalize r / tot = u at *
  have e1 : u * (lo + sz) ≤ u * tot := (mul_bd u (lo + sz) tot (by omega) (by omega) h7).2
  have e2 : u * 1 ≤ u * sz := (mul_bd u 1 sz (by omega) (by omega) h5).2
  have e3 := (mul_bd u lo tot (by omega) h6 (by omega)).1
  rw [Int.mul_add] at e1
  split <;> omega

theorem l3Byte_calls (v : Value) (xs : List Int) (k : Nat) (w : World) (h : Sl .u8 w v xs) (hx : BytesL xs) :
    Calls Tryd.prog 83 #[v, .int .i64 k] w fun e w' => e = .returned (.int .i64 (xs.getD k 0)) ∧ w' = w := by
  obtain ⟨a, cap, rfl, hc⟩ := h
  by_cases hk : k < xs.length
  · obtain ⟨b, off, rfl, hb, hcell⟩ := hc (by intro e; rw [e] at hk; simp at hk)
    have c := hcell k hk
    have hbd := CrcM.getD_bd hx k
    generalize xs.getD k 0 = x at *
    have hk1 : (k : Int) < (xs.length : Int) := by omega
    clear hcell hc hx
    go_enter Tryd.func83, Tryd.ntmps83
    go_wp2
    go_ret
    exact ⟨rfl, rfl⟩
  · have hk1 : (xs.length : Int) ≤ (k : Int) := by omega
    have e : xs.getD k 0 = 0 := by rw [List.getD_eq_getElem?_getD, List.getElem?_eq_none (by omega)]; rfl
    rw [e]
    clear hc e
    go_enter Tryd.func83, Tryd.ntmps83
    go_wp2
    go_ret
    exact ⟨rfl, rfl⟩
theorem byteAt_calls (v : Value) (xs : List Int) (k : Nat) (p q r : Int) (w : World) (h : Sl .u8 w v xs) :
    Calls Tryd.prog 96 #[.agg #[v, .int .i64 p, .int .i64 q, .int .i64 r], .int .i64 k] w fun e w' => e = .returned (.int .u8 (xs.getD k 0)) ∧ Below w.heap.size w w' := by
  obtain ⟨a, cap, rfl, hc⟩ := h
  have Hb := hid (bmore (Below.refl _ w) (.cells #[.slice a xs.length cap, .int .i64 p, .int .i64 q, .int .i64 r] 88))
  by_cases hk : k < xs.length
  · obtain ⟨b, off, rfl, hb, hcell⟩ := hc (by intro e; rw [e] at hk; simp at hk)
    have c := (Hb.out.cell (p := ⟨b, off + k, none⟩) hb).trans (hcell k hk)
    generalize xs.getD k 0 = x at *
    have hk1 : (k : Int) < (xs.length : Int) := by omega
    clear hcell hc
    go_enter Tryd.func96, Tryd.ntmps96
    go_wp2
    go_ret
    exact ⟨rfl, Hb.out⟩
  · have hk1 : (xs.length : Int) ≤ (k : Int) := by omega
    have e : xs.getD k 0 = 0 := by rw [List.getD_eq_getElem?_getD, List.getElem?_eq_none (by omega)]; rfl
    rw [e]
    clear hc e
    go_enter Tryd.func96, Tryd.ntmps96
    go_wp2
    go_ret
    exact ⟨rfl, Hb.out⟩
theorem read_calls (g : Nat) (v : Value) (at' rst rng x : Int) (t : TypeId) (w : World) (hB : Blk w g #[v, .int .i64 at', .int .i64 rst, .int .i64 rng] t) (h1 : 0 ≤ at') (h2 : at' ≤ 100000) (h3 : -17179869184 ≤ rst) (h4 : rst ≤ 17179869184) (hx : 0 ≤ x ∧ x ≤ 255) :
    Calls Tryd.prog 79 #[.pointer (some ⟨g, 0, none⟩), .int .u8 x] w fun e w' => (∃ r, e = .returned r) ∧ Blk w' g #[v, .int .i64 (at' + 1), .int .i64 (rst * 256 + x), .int .i64 rng] t ∧ w.grownBy w' (some g) := by
  obtain ⟨c0, c1, c2, c3, f0, f1, f2, f3⟩ := hB.four
  have HB := hid hB
  clear hB
  obtain ⟨x0, x1⟩ := hx
  go_enter Tryd.func79, Tryd.ntmps79
  go_wp2
  have e1 : 256 * rst + x = rst * 256 + x := by omega
  refine bodyPost_end (v := .tuple #[]) (by simp [results, Tryd.results79, go_sem]) rfl ⟨⟨_, rfl⟩, ?_, ?_⟩
  · have := (HB.out.set 2 (.int .i64 (256 * rst + x))).set 1 (.int .i64 (at' + 1))
    rw [e1] at this ⊢
    exact this
  · exact grown_same (grown_set w g 2 _) (grown_set _ g 1 _)
theorem l3Narrow_calls (r lo sz tot : Int) (w : World) (h1 : 65536 ≤ r) (h2 : r ≤ 16777216) (h3 : 1 ≤ tot) (h4 : tot ≤ 1024) (h5 : 1 ≤ sz) (h6 : 0 ≤ lo) (h7 : lo + sz ≤ tot) :
    Calls Tryd.prog 75 #[.int .i64 r, .agg #[.int .i64 lo, .int .i64 sz, .int .i64 tot]] w fun e w' => e = .returned (.int .i64 (narI r lo sz tot)) ∧ Below w.heap.size w w' := by
  have Hb := hid (bmore (Below.refl _ w) (.cells #[.int .i64 lo, .int .i64 sz, .int .i64 tot] 75))
  obtain ⟨q1, b1, b2⟩ := unit_bd r tot h1 h2 h3 h4
  have m1 := mul_bd (r / tot) lo 1024 (by omega) h6 (by omega)
  have m2 := mul_bd (r / tot) sz 1024 (by omega) (by omega) (by omega)
  by_cases hl : lo + sz = tot
  · rw [narI_last hl]
    generalize r / tot = u at *
    have k1 : wrap64 (u * lo) = u * lo := wrap_of (by omega) (by omega)
    have k2 : wrap64 (r - u * lo) = r - u * lo := wrap_of (by omega) (by omega)
    clear m2
    go_enter Tryd.func75, Tryd.ntmps75
    go_wp2
    go_ret
    exact ⟨rfl, Hb.out⟩
  · rw [narI_in hl]
    generalize r / tot = u at *
    have k1 : wrap64 (u * sz) = u * sz := wrap_of (by omega) (by omega)
    clear m1
    go_enter Tryd.func75, Tryd.ntmps75
    go_wp2
    go_ret
    exact ⟨rfl, Hb.out⟩
theorem partOf_calls (r lo sz tot : Int) (w : World) (h1 : 65536 ≤ r) (h2 : r ≤ 16777216) (h3 : 1 ≤ tot) (h4 : tot ≤ 1024) (h5 : 1 ≤ sz) (h6 : 0 ≤ lo) (h7 : lo + sz ≤ tot) :
    Calls Tryd.prog 65 #[.agg #[.int .i64 lo, .int .i64 sz, .int .i64 tot], .int .i64 r] w fun e w' => e = .returned (.tuple #[.int .i64 (r / tot * lo), .int .i64 (narI r lo sz tot)]) ∧ Below w.heap.size w w' := by
  have Hb := hid (bmore (Below.refl _ w) (.cells #[.int .i64 lo, .int .i64 sz, .int .i64 tot] 75))
  obtain ⟨q1, b1, b2⟩ := unit_bd r tot h1 h2 h3 h4
  have m1 := mul_bd (r / tot) lo 1024 (by omega) h6 (by omega)
  have m2 := mul_bd (r / tot) sz 1024 (by omega) (by omega) (by omega)
  by_cases hl : lo + sz = tot
  · rw [narI_last hl]
    generalize r / tot = u at *
    have k1 : wrap64 (u * lo) = u * lo := wrap_of (by omega) (by omega)
    have k2 : wrap64 (r - u * lo) = r - u * lo := wrap_of (by omega) (by omega)
    clear m2
    go_enter Tryd.func65, Tryd.ntmps65
    go_wp2
    go_ret2
    exact ⟨rfl, Hb.out⟩
  · rw [narI_in hl]
    generalize r / tot = u at *
    have k1 : wrap64 (u * lo) = u * lo := wrap_of (by omega) (by omega)
    have k2 : wrap64 (u * sz) = u * sz := wrap_of (by omega) (by omega)
    go_enter Tryd.func65, Tryd.ntmps65
    go_wp2
    go_quiet (fail)
    go_wp2
    go_ret2
    exact ⟨rfl, below_drewN Hb.out _⟩
end Go.Proofs.YthecfboplfmdmaaDoor.Byte
