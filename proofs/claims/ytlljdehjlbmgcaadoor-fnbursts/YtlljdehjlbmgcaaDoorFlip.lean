/- The steps of FlipBits, the program's and the model's: digits, places, and the turning of one bit. -/
import Derived.Test.YtlljdehjlbmgcaaDoorBits
import Derived.Test.YtlljdehjlbmgcaaDoorByt
import Derived.Test.YtlljdehjlbmgcaaDoorCrc
import Derived.Test.YtlljdehjlbmgcaaDoorDiv
import Derived.Deep.RegionHeld3
import Derived.Deep.DrawnRows
namespace Go.Proofs.YtlljdehjlbmgcaaDoor.Flip
open Go.ChangeShapes Go.WideShapes Go.ChangeAt Go.RowKit Go.Proofs.YtlljdehjlbmgcaaDoor.Num Go.Proofs.YtlljdehjlbmgcaaDoor.Sli Go.Proofs.YtlljdehjlbmgcaaDoor.App Go.Proofs.YtlljdehjlbmgcaaDoor.Byt Go.Proofs.YtlljdehjlbmgcaaDoor.CrcM Go.Proofs.YtlljdehjlbmgcaaDoor.Crc Go.Proofs.YtlljdehjlbmgcaaDoor.FlipM Go.Proofs.YtlljdehjlbmgcaaDoor.Bits

theorem lz16_calls (b L k : Nat) (w : World) (h : Len b L) (hb : b < 65536) (hk : L + k = 16) : Calls Tryd.prog 38 #[.int .u16 b] w fun e w' => e = .returned (.int .i64 k) ∧ w' = w := by
  have hL := h.2.1
  go_enter Tryd.func38, Tryd.ntmps38
  go_wp2_with (go_at_call 43; refine (len16_calls _ _ _ h hb).mono ?_; rintro e w' ⟨rfl, rfl⟩)
  go_ret
  exact ⟨ret_int (by omega), rfl⟩
theorem firstAhead_calls (b L k : Nat) (w : World) (h : Len b L) (hb : b < 65536) (hk : L + k = 16) : Calls Tryd.prog 25 #[.int .u16 b] w fun e w' => e = .returned (.int .u16 ((b * 2 ^ k : Nat) : Int)) ∧ w' = w := by
  have hx : b * 2 ^ k < 65536 := by have := top_lt h; rwa [show 16 - L = k by omega] at this
  have hk16 : k ≤ 15 := by have := h.1; omega
  have Hm : Hid ((b : Int) * 2 ^ k % 65536 = ((b * 2 ^ k : Nat) : Int)) := by
    have e : (b : Int) * 2 ^ k = ((b * 2 ^ k : Nat) : Int) := by simp
    unfold Hid; rw [e]; omega
  go_enter Tryd.func25, Tryd.ntmps25
  go_wp2_with (go_at_call 38; refine (lz16_calls _ _ _ _ h hb hk).mono ?_; rintro e w' ⟨rfl, rfl⟩)
  go_ret
  exact ⟨ret_int (by rw [IntKind.wrap_u16]; exact Hm.out), rfl⟩
theorem lastPlace_calls (x t : Nat) (w : World) (hT : Tab w) (hx : x < 65536) (h : x % 2 ^ (t + 1) = 2 ^ t) : Calls Tryd.prog 26 #[.int .u16 x] w fun e w' => e = .returned (.int .i64 ((15 - t : Nat) : Int)) ∧ w' = w := by
  have ht := low_lt h hx
  have HT := hid hT
  have H := hid h
  clear hT h
  go_enter Tryd.func26, Tryd.ntmps26
  go_wp2_with (go_at_call 39; refine (tz16_calls _ _ _ HT.out hx H.out).mono ?_; rintro e w' ⟨rfl, rfl⟩)
  go_ret
  exact ⟨ret_int (by omega), rfl⟩
theorem at_math (x i : Nat) (hi : i ≤ 15) (hx : x < 65536) : ((x : Int) * 2 ^ i % 65536 / 32768 == 1) = decide (x / 2 ^ (15 - i) % 2 = 1) := by
  rw [Bool.eq_iff_iff, beq_iff_eq, decide_eq_true_iff]
  rcases cases16 (k := i) (by omega) with rfl | rfl | rfl | rfl | rfl | rfl | rfl | rfl | rfl | rfl | rfl | rfl | rfl | rfl | rfl | rfl <;> simp <;> omega
theorem isAt_calls (x i : Nat) (w : World) (hx : x < 65536) (hi : i ≤ 15) : Calls Tryd.prog 28 #[.int .u16 x, .int .i64 i] w fun e w' => e = .returned (.bool (decide (x / 2 ^ (15 - i) % 2 = 1))) ∧ w' = w := by
  have H := hid (at_math x i hi hx)
  go_enter Tryd.func28, Tryd.ntmps28
  go_wp2
  go_ret
  exact ⟨ret_bool H.out, rfl⟩
theorem turn_math {ys : List Int} {p q m : Nat} {x : Int} (hy : BytesL ys) (hq : p / 8 = q) (hr : p % 8 = m) (hx : ys.getD q 0 = x) : ys.set q (bits .xor .u8 x (128 / 2 ^ m)) = flip1 ys p := by
  subst hq hr hx
  obtain ⟨h1, h2⟩ := getD_bd hy (p / 8)
  unfold flip1
  congr 1
  have e : (128 : Int) / 2 ^ (p % 8) = ((2 ^ (7 - p % 8) : Nat) : Int) := by
    rcases (show p % 8 = 0 ∨ p % 8 = 1 ∨ p % 8 = 2 ∨ p % 8 = 3 ∨ p % 8 = 4 ∨ p % 8 = 5 ∨ p % 8 = 6 ∨ p % 8 = 7 by omega) with h | h | h | h | h | h | h | h <;> rw [h] <;> rfl
  have hl : 2 ^ (7 - p % 8) < 256 := Nat.lt_of_le_of_lt (Nat.pow_le_pow_right (by decide) (show 7 - p % 8 ≤ 7 by omega)) (by decide)
  obtain ⟨X, hX⟩ := Int.eq_ofNat_of_zero_le h1
  rw [hX, e, u8_xor_nat X _ (by omega) hl, Int.toNat_natCast]
theorem turnBit_calls (base g cap n : Nat) (ys : List Int) (p : Nat) (w : World) (h : OwB base w (.slice (some ⟨g, 0, none⟩) n cap) ys) (hn : n = ys.length) (hy : BytesL ys) (hp : p < 8 * n) (hmax : n ≤ 1048576) :
    Calls Tryd.prog 29 #[.slice (some ⟨g, 0, none⟩) n cap, .int .i64 p] w fun e w' => e = .returned (.tuple #[]) ∧ OwB base w' (.slice (some ⟨g, 0, none⟩) n cap) (flip1 ys p) ∧ w.grownBy w' (some g) := by
  have e1 : (p : Int) / 8 = ((p / 8 : Nat) : Int) := by omega
  have e2 : (p : Int) % 8 = ((p % 8 : Nat) : Int) := by omega
  have hq : p / 8 < n := by omega
  have hr : p % 8 < 8 := by omega
  obtain ⟨c0, f0⟩ := h.cellAt hn (p / 8) (by omega)
  have hb := getD_bd hy (p / 8)
  generalize hq' : p / 8 = q at *
  generalize hr' : p % 8 = m at *
  generalize hx : ys.getD q 0 = x at *
  have H := hid h
  have Hn := hid hn
  have Hq := hid hq'
  have Hr := hid hr'
  have Hx := hid hx
  have w1 : IntKind.i64.wrap (q : Int) = q := wrapk_of (by omega) (by omega)
  have w2 : IntKind.i64.wrap (m : Int) = m := wrapk_of (by omega) (by omega)
  have e3 : (p : Int).tmod 8 = (m : Int) := by rw [Int.tmod_eq_emod_of_nonneg (by omega)]; exact e2
  have i1 : (0 : Int) ≤ (q : Int) := by omega
  have i2 : (q : Int) < n := by omega
  have i3 : (0 : Int) ≤ (m : Int) := by omega
  clear h hn hq' hr' hx
  go_enter Tryd.func29, Tryd.ntmps29
  go_wp2_with fail
  refine wp_region_noPanic ?_
  refine wp_region_held_drew (S := fun _ => True) (by kernel_rfl) trivial (fun hHeld => ?_)
  (refine wpAnyH_take (i := 0) (v := ?_) rfl (by kernel_rfl) (by kernel_rfl) (by kernel_rfl) (fun _ _ _ h => h) (Or.inl ⟨by rfl, ?_⟩) hHeld ?_; rotate_left; (intro w hSw; (go_simp <;> with_reducible rfl)); simp only [List.getElem_toArray, List.getElem_cons_zero, Act.put, List.setIfInBounds_toArray, List.set_cons_zero, List.set_cons_succ])
  (refine wpAnyH_take (i := 1) (v := ?_) rfl (by kernel_rfl) (by kernel_rfl) (by kernel_rfl) (fun _ _ _ h => h) (Or.inl ⟨by rfl, ?_⟩) hHeld ?_; rotate_left; (intro w hSw; (go_simp <;> with_reducible rfl)); simp only [List.getElem_toArray, List.getElem_cons_zero, List.getElem_cons_succ, Act.put, List.setIfInBounds_toArray, List.set_cons_zero, List.set_cons_succ])
  (refine wpAnyH_take (i := 2) (v := ?_) rfl (by kernel_rfl) (by kernel_rfl) (by kernel_rfl) (fun _ _ _ h => h) (Or.inl ⟨by rfl, ?_⟩) hHeld ?_; rotate_left; (intro w hSw; (go_simp <;> with_reducible rfl)); simp only [List.getElem_toArray, List.getElem_cons_zero, List.getElem_cons_succ, Act.put, List.setIfInBounds_toArray, List.set_cons_zero, List.set_cons_succ])
  (refine wpAnyH_take (i := 3) (v := ?_) rfl (by kernel_rfl) (by kernel_rfl) (by kernel_rfl) (fun _ _ _ h => h) (Or.inl ⟨by rfl, ?_⟩) hHeld ?_; rotate_left; (intro w hSw; (go_simp <;> with_reducible rfl)); simp only [List.getElem_toArray, List.getElem_cons_zero, List.getElem_cons_succ, Act.put, List.setIfInBounds_toArray, List.set_cons_zero, List.set_cons_succ])
  (refine wpAnyH_take (i := 5) (v := ?_) rfl (by kernel_rfl) (by kernel_rfl) (by kernel_rfl) (fun _ _ _ h => h) (Or.inl ⟨by rfl, ?_⟩) hHeld ?_; rotate_left; (intro w hSw; (go_simp <;> with_reducible rfl)); simp only [List.getElem_toArray, List.getElem_cons_zero, List.getElem_cons_succ, Act.put, List.setIfInBounds_toArray, List.set_cons_zero, List.set_cons_succ])
  (refine wpAnyH_take (i := 6) (v := ?_) rfl (by kernel_rfl) (by kernel_rfl) (by kernel_rfl) (fun _ _ _ h => h) (Or.inl ⟨by rfl, ?_⟩) hHeld ?_; rotate_left; (intro w hSw; (go_simp <;> with_reducible rfl)); simp only [List.getElem_toArray, List.getElem_cons_zero, List.getElem_cons_succ, Act.put, List.setIfInBounds_toArray, List.set_cons_zero, List.set_cons_succ])
  (refine wpAnyH_take (i := 7) (v := ?_) rfl (by kernel_rfl) (by kernel_rfl) (by kernel_rfl) (fun _ _ _ h => h) (Or.inl ⟨by rfl, ?_⟩) hHeld ?_; rotate_left; (intro w hSw; (go_simp <;> with_reducible rfl)); simp only [List.getElem_toArray, List.getElem_cons_zero, List.getElem_cons_succ, Act.put, List.setIfInBounds_toArray, List.set_cons_zero, List.set_cons_succ])
  refine wpAnyH_ready (rs := [4]) (by kernel_rfl) (by simp) ?_
  refine (AllReadyH.cons rfl (fun K hK => ?_) AllReadyH.nil)
  go_simp
  skip
  refine hK.out _ _ trivial (fun hHeld => ?_)
  clear hK K
  try simp only [List.getElem_toArray, List.getElem_cons_zero, List.getElem_cons_succ, Act.put, List.setIfInBounds_toArray, List.set_cons_zero, List.set_cons_succ]
  (refine wpAnyH_take (i := 8) (v := ?_) rfl (by kernel_rfl) (by kernel_rfl) (by kernel_rfl) (fun _ _ _ h => h) (Or.inl ⟨by rfl, ?_⟩) hHeld ?_; rotate_left; (intro w hSw; (go_simp <;> with_reducible rfl)); simp only [List.getElem_toArray, List.getElem_cons_zero, List.getElem_cons_succ, Act.put, List.setIfInBounds_toArray, List.set_cons_zero, List.set_cons_succ])
  (refine wpAnyH_take (i := 9) (v := ?_) rfl (by kernel_rfl) (by kernel_rfl) (by kernel_rfl) (fun _ _ _ h => h) (Or.inl ⟨by rfl, ?_⟩) hHeld ?_; rotate_left; (intro w hSw; (go_simp <;> with_reducible rfl)); simp only [List.getElem_toArray, List.getElem_cons_zero, List.getElem_cons_succ, Act.put, List.setIfInBounds_toArray, List.set_cons_zero, List.set_cons_succ])
  refine wpAnyH_ready (rs := [10]) (by kernel_rfl) (by simp) ?_
  refine (AllReadyH.cons rfl (fun K hK => ?_) AllReadyH.nil)
  go_simp
  skip
  refine hK.out _ _ trivial (fun hHeld => ?_)
  clear hK K
  try simp only [List.getElem_toArray, List.getElem_cons_zero, List.getElem_cons_succ, Act.put, List.setIfInBounds_toArray, List.set_cons_zero, List.set_cons_succ]
  refine wpAnyH_done (by kernel_rfl) ?_ _
  refine NoPanic.normal ?_
  have hs := H.out.set Hn.out q (bits .xor .u8 x (128 / 2 ^ m))
  rw [turn_math hy Hq.out Hr.out Hx.out] at hs
  have HS := hid hs
  clear hs
  go_wp2
  exact bodyPost_end (v := .tuple #[]) (by simp [results, Tryd.results29, go_sem]) rfl ⟨rfl, HS.out.1, ⟨HS.out.2.os, HS.out.2.tape, HS.out.2.output, HS.out.2.size, HS.out.2.block⟩⟩
theorem half_step (b j L : Nat) (h : Len b L) : (j < L → 0 < b / 2 ^ j) ∧ (b / 2 ^ L = 0) ∧ (b / 2 ^ j / 2 = b / 2 ^ (j + 1)) := by
  obtain ⟨h1, h2, h3, h4⟩ := h
  refine ⟨fun hj => ?_, Nat.div_eq_of_lt h4, ?_⟩
  · have : 2 ^ j ≤ 2 ^ (L - 1) := Nat.pow_le_pow_right (by decide) (by omega)
    exact Nat.div_pos (by omega) (Nat.two_pow_pos _)
  · rw [Nat.div_div_eq_div_mul, ← Nat.pow_succ]
theorem l2Length_calls (b L : Nat) (w : World) (h : Len b L) (hb : b < 65536) : Calls Tryd.prog 32 #[.int .i64 b] w fun e w' => e = .returned (.int .i64 L) ∧ w' = w := by
  have hL := h.2.1
  have H := hid (fun j => half_step b j L h)
  clear h
  go_enter Tryd.func32, Tryd.ntmps32
  go_wp2
  go_loop [0, 3] (fun n k => ∃ j : Nat, j ≤ L ∧ n = .int .i64 ((b / 2 ^ j : Nat) : Int) ∧ k = .int .i64 j) (fun _ k => L - (intOf k).toNat)
  case atStart => exact ⟨0, Nat.zero_le _, by simp, rfl⟩
  case round =>
    obtain ⟨j, hj, rfl, rfl⟩ := hrel
    obtain ⟨h1, h2, h3⟩ := H.out j
    have hle : b / 2 ^ j ≤ b := Nat.div_le_self _ _
    by_cases hlt : j < L
    · have hp := h1 hlt
      have H3 := hid h3
      clear h1 h2 h3
      generalize hq : b / 2 ^ j = q at *
      have Hq := hid hq
      clear hq
      have hp' : (0 : Int) < (q : Int) := by omega
      go_wp2
      go_round
      case rel => exact ⟨j + 1, by omega, by rw [← H3.out]; go_num, by go_num⟩
      case measure => simp [intOf]; omega
    · have he : j = L := by omega
      subst he
      have hz : ((b / 2 ^ j : Nat) : Int) = 0 := by rw [h2]; rfl
      clear h1 h3 h2
      rw [hz] at *
      go_wp2
      go_ret
      exact ⟨rfl, rfl⟩
end Go.Proofs.YtlljdehjlbmgcaaDoor.Flip
