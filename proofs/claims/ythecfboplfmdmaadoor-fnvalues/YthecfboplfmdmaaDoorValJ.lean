/- Values in the program: the class of a number, the pieces of its rest. -/
import Derived.Test.YthecfboplfmdmaaDoorValI
namespace Go.Proofs.YthecfboplfmdmaaDoor.ValJ
open Go.ChangeShapes Go.WideShapes Go.ChangeAt Go.RowKit Go.Proofs.YthecfboplfmdmaaDoor.Num Go.Proofs.YthecfboplfmdmaaDoor.Sli Go.Proofs.YthecfboplfmdmaaDoor.App Go.Proofs.YthecfboplfmdmaaDoor.Div Go.Proofs.YthecfboplfmdmaaDoor.Dec Go.Proofs.YthecfboplfmdmaaDoor.Blk Go.Proofs.YthecfboplfmdmaaDoor.RangeM Go.Proofs.YthecfboplfmdmaaDoor.SlS Go.Proofs.YthecfboplfmdmaaDoor.ExL Go.Proofs.YthecfboplfmdmaaDoor.ValZ Go.Proofs.YthecfboplfmdmaaDoor.ValI

/-- The text of math/bits: how many digits a byte has. -/
def lit8 : ByteArray := ⟨#[0, 1, 2, 2, 3, 3, 3, 3, 4, 4, 4, 4, 4, 4, 4, 4, 5, 5, 5, 5, 5, 5, 5, 5, 5, 5, 5, 5, 5, 5, 5, 5, 6, 6, 6, 6, 6, 6, 6, 6, 6, 6, 6, 6, 6, 6, 6, 6, 6, 6, 6, 6, 6, 6, 6, 6, 6, 6, 6, 6, 6, 6, 6, 6, 7, 7, 7, 7, 7, 7, 7, 7, 7, 7, 7, 7, 7, 7, 7, 7, 7, 7, 7, 7, 7, 7, 7, 7, 7, 7, 7, 7, 7, 7, 7, 7, 7, 7, 7, 7, 7, 7, 7, 7, 7, 7, 7, 7, 7, 7, 7, 7, 7, 7, 7, 7, 7, 7, 7, 7, 7, 7, 7, 7, 7, 7, 7, 7, 8, 8, 8, 8, 8, 8, 8, 8, 8, 8, 8, 8, 8, 8, 8, 8, 8, 8, 8, 8, 8, 8, 8, 8, 8, 8, 8, 8, 8, 8, 8, 8, 8, 8, 8, 8, 8, 8, 8, 8, 8, 8, 8, 8, 8, 8, 8, 8, 8, 8, 8, 8, 8, 8, 8, 8, 8, 8, 8, 8, 8, 8, 8, 8, 8, 8, 8, 8, 8, 8, 8, 8, 8, 8, 8, 8, 8, 8, 8, 8, 8, 8, 8, 8, 8, 8, 8, 8, 8, 8, 8, 8, 8, 8, 8, 8, 8, 8, 8, 8, 8, 8, 8, 8, 8, 8, 8, 8, 8, 8, 8, 8, 8, 8, 8, 8, 8, 8, 8, 8, 8, 8, 8, 8, 8, 8, 8, 8]⟩
set_option maxRecDepth 100000 in
theorem key8 : ∀ k : Fin 256, (lit8.data.getD k.1 0).toNat = cl k.1 := by decide +kernel
theorem len8_at (b : Nat) (hs : b < lit8.size) (h : b < 256) : (lit8[b]'hs).toNat = cl b := by
  have k := key8 ⟨b, h⟩
  rw [← k]
  have hs' : b < lit8.data.size := hs
  rw [Array.getD_eq_getD_getElem?, Array.getElem?_eq_getElem hs', Option.getD_some]
  rfl
theorem cl_shift (z s : Nat) (h : 2 ^ s ≤ z) : cl z = s + cl (z / 2 ^ s) := by
  have hp := Nat.two_pow_pos s
  have hq : z / 2 ^ s ≠ 0 := by
    have := Nat.div_pos h hp
    omega
  obtain ⟨k1, k2, k3⟩ := cl_bd hq
  generalize cl (z / 2 ^ s) = c at *
  refine cl_of (by omega) ?_ ?_
  · rw [show s + c - 1 = c - 1 + s by omega, Nat.pow_add]
    exact (Nat.le_div_iff_mul_le hp).1 k2
  · rw [Nat.add_comm, Nat.pow_add]
    exact (Nat.div_lt_iff_lt_mul hp).1 k3
/-- A list that is written out is the call's own. -/
theorem ow_lit (k : IntKind) (t base : Nat) (w : World) (xs : List Int) (hm : xs.length ≤ maxLen := by exact of_decide_eq_true rfl) (hb : base ≤ w.heap.size := by exact Nat.le_refl _) : Ow k t base (w.alloc (.cells (xs.map (Value.int k)).toArray t)) (.slice (some ⟨w.heap.size, 0, none⟩) xs.length xs.length) xs := by
  refine ⟨by simp, Or.inr ⟨w.heap.size, xs.length, (xs.map (Value.int k)).toArray, rfl, hb, heap_alloc_new w _, Nat.le_refl _, hm, by simp, by simp [List.take_of_length_le]⟩⟩
theorem wr_lo {n L : Nat} (h : n = L) (hL : L ≤ 17) : wrap64 (wrap64 (n : Int)) = L := by subst h; rw [wrap_of (x := (n : Int)) (by omega) (by omega), wrap_of (by omega) (by omega)]
theorem wr_hi {n L : Nat} (s : Nat) (h : L = s + n) (hL : L ≤ 17) : wrap64 ((s : Int) + wrap64 (n : Int)) = L := by subst h; rw [wrap_of (x := (n : Int)) (by omega) (by omega), wrap_of (by omega) (by omega)]; omega
theorem len8_int (y : Int) (hs : y.toNat < lit8.size) (h : y < 256) : (lit8[y.toNat]'hs).toNat = cl y.toNat := len8_at y.toNat hs (by omega)
set_option maxHeartbeats 1000000 in
set_option maxRecDepth 100000 in
theorem len64_calls (z : Nat) (w : World) (hz : z ≤ 131071) : Calls Tryd.prog 62 #[.int .u64 (z : Int)] w fun e w' => e = .returned (.int .i64 (cl z : Int)) ∧ w' = w := by
  have HLe := hid (cl_le hz)
  by_cases hb : z < 256
  · have hy : (z : Int) < 256 ∧ 0 ≤ (z : Int) := by omega
    have HZ : Hid (cl (z : Int).toNat = cl z) := by rw [Int.toNat_natCast]; exact rfl
    clear hz hb
    generalize (z : Int) = y at *
    obtain ⟨y1, y0⟩ := hy
    have y2 : ¬ 4294967296 ≤ y := by omega
    have y3 : ¬ 65536 ≤ y := by omega
    have y4 : ¬ 256 ≤ y := by omega
    go_enter Tryd.func62, Tryd.ntmps62
    go_wp2
    go_ret
    exact ⟨ret_int (wr_lo ((len8_int y (by show y.toNat < 256; omega) y1).trans HZ.out) HLe.out), rfl⟩
  · by_cases hb2 : z < 65536
    · have hy : (z : Int) < 65536 ∧ 256 ≤ (z : Int) := by omega
      have hq : (z : Int) / 256 < 256 ∧ 0 ≤ (z : Int) / 256 := by omega
      have H := hid (cl_shift z 8 (by omega))
      rw [show 2 ^ 8 = 256 by rfl, show z / 256 = ((z : Int) / 256).toNat by omega] at H
      clear hz hb hb2
      generalize (z : Int) = y at *
      obtain ⟨y1, y0⟩ := hy
      have y2 : ¬ 4294967296 ≤ y := by omega
      have y3 : ¬ 65536 ≤ y := by omega
      obtain ⟨q1, q0⟩ := hq
      go_enter Tryd.func62, Tryd.ntmps62
      go_wp2
      go_ret
      exact ⟨ret_int (wr_hi 8 (H.out.trans (congrArg (8 + ·) (len8_int (y / 256) (by show (y / 256).toNat < 256; omega) q1).symm)) HLe.out), rfl⟩
    · have hy : (z : Int) < 4294967296 ∧ 65536 ≤ (z : Int) := by omega
      have hq' : (z : Int) / 65536 = 1 := by omega
      have H := hid (cl_shift z 16 (by omega))
      rw [show 2 ^ 16 = 65536 by rfl, show z / 65536 = 1 by omega] at H
      clear hz hb hb2
      generalize (z : Int) = y at *
      obtain ⟨y1, y0⟩ := hy
      have y2 : ¬ 4294967296 ≤ y := by omega
      go_enter Tryd.func62, Tryd.ntmps62
      go_wp2
      go_ret
      exact ⟨ret_int (wr_hi 16 (H.out.trans (congrArg (16 + ·) (len8_at 1 (by show 1 < 256; omega) (by omega)).symm)) HLe.out), rfl⟩
theorem classOf_calls (z : Nat) (w : World) (hz : z ≤ 131071) : Calls Tryd.prog 46 #[.int .i64 (z : Int)] w fun e w' => e = .returned (.int .i64 (cl z : Int)) ∧ w' = w := by
  have hL := cl_le hz
  have HL := hid (fun W => len64_calls z W hz)
  have hz' : (z : Int) ≤ 131071 := by omega
  have hm : (z : Int) % 18446744073709551616 = (z : Int) := by omega
  clear hz
  go_enter Tryd.func46, Tryd.ntmps46
  go_wp2_with fail
  refine (HL.out _).mono ?_
  rintro e w1 ⟨rfl, rfl⟩
  generalize hc : cl z = c at *
  have Hc := hid hc
  clear hc
  go_wp2
  go_ret
  exact ⟨by rw [Hc.out]; rfl, rfl⟩
def fD (c : Nat) : Nat := if c = 0 then 0 else 1
theorem firstDigit_calls (c : Nat) (w : World) : Calls Tryd.prog 64 #[.int .i64 (c : Int)] w fun e w' => e = .returned (.int .i64 (fD c : Int)) ∧ w' = w := by
  by_cases h : 1 < c
  · have HF : Hid ((fD c : Int) = 1) := by show _ = _; unfold fD; split <;> omega
    have h' : ¬ (c : Int) ≤ 1 := by omega
    go_enter Tryd.func64, Tryd.ntmps64
    go_wp2
    go_ret
    exact ⟨ret_int HF.out.symm, rfl⟩
  · have HF : Hid ((fD c : Int) = (c : Int)) := by show _ = _; unfold fD; split <;> omega
    have h' : (c : Int) ≤ 1 := by omega
    go_enter Tryd.func64, Tryd.ntmps64
    go_wp2
    go_ret
    exact ⟨ret_int HF.out.symm, rfl⟩
def rDg (c : Nat) : Nat := c - 1
theorem restDigits_calls (c : Nat) (w : World) (hc : c < 18) : Calls Tryd.prog 48 #[.int .i64 (c : Int)] w fun e w' => e = .returned (.int .i64 (rDg c : Int)) ∧ w' = w := by
  have HF := hid (firstDigit_calls c)
  have hf : (fD c : Int) ≤ 1 ∧ 0 ≤ (fD c : Int) ∧ (c : Int) < 18 := by unfold fD; split <;> omega
  have HR : Hid ((c : Int) - (fD c : Int) = (rDg c : Int)) := by show _ = _; unfold fD rDg; split <;> omega
  obtain ⟨f1, f2, f3⟩ := hf
  go_enter Tryd.func48, Tryd.ntmps48
  go_wp2_with fail
  refine (HF.out _).mono ?_
  rintro e w1 ⟨rfl, rfl⟩
  generalize (fD c : Int) = f at *
  go_wp2
  go_ret
  exact ⟨ret_int HR.out, rfl⟩
/-- The pieces, as they lie in a list. -/
def pcI (c : Nat) : List Int := (pcs c).map Int.ofNat
theorem pieces_calls (c : Nat) (w : World) (hc : c < 18) : Calls Tryd.prog 49 #[.int .i64 (c : Int)] w fun e w' => ∃ v, e = .returned v ∧ Ow .i64 2 w.heap.size w' v (pcI c) ∧ Below w.heap.size w w' := by
  have HR := hid (fun W => restDigits_calls c W hc)
  by_cases h2 : c < 2
  · have e1 : Hid (pcI c = []) := by show _ = _; unfold pcI pcs; rw [if_pos h2]; rfl
    have e2 : (rDg c : Int) = 0 := by unfold rDg; omega
    rw [e2] at HR
    go_enter Tryd.func49, Tryd.ntmps49
    go_wp2_with fail
    refine (HR.out _).mono ?_
    rintro e w1 ⟨rfl, rfl⟩
    go_wp2
    go_ret
    exact ⟨_, rfl, by rw [e1.out]; exact ⟨rfl, .inl ⟨rfl, rfl⟩⟩, Below.refl _ _⟩
  · have e2 : (rDg c : Int) = (c : Int) - 1 := by unfold rDg; omega
    by_cases h8 : 8 < c - 1
    · have e1 : Hid (pcI c = [(c : Int) - 1 - 8, 8]) := by
        show _ = _; unfold pcI pcs; rw [if_neg h2, if_pos h8]
        show [((c - 9 : Nat) : Int), ((8 : Nat) : Int)] = _
        rw [show ((c - 9 : Nat) : Int) = (c : Int) - 1 - 8 by omega]; rfl
      rw [e2] at HR
      have hq : 8 < (c : Int) - 1 ∧ (c : Int) - 1 < 18 := by omega
      generalize (c : Int) - 1 = x at *
      obtain ⟨q1, q2⟩ := hq
      go_enter Tryd.func49, Tryd.ntmps49
      go_wp2_with fail
      refine (HR.out _).mono ?_
      rintro e w1 ⟨rfl, rfl⟩
      go_wp2
      go_ret
      exact ⟨_, rfl, by rw [e1.out]; exact ow_lit _ _ _ _ _, bmore (Below.refl _ _) _⟩
    · have e1 : Hid (pcI c = [(c : Int) - 1]) := by
        show _ = _; unfold pcI pcs; rw [if_neg h2, if_neg h8]
        show [((c - 1 : Nat) : Int)] = _
        rw [show ((c - 1 : Nat) : Int) = (c : Int) - 1 by omega]
      rw [e2] at HR
      have hq : (c : Int) - 1 ≤ 8 ∧ 0 < (c : Int) - 1 := by omega
      generalize (c : Int) - 1 = x at *
      obtain ⟨q1, q2⟩ := hq
      have q3 : (x == 0) = false := beq_eq_false_iff_ne.2 (by omega)
      go_enter Tryd.func49, Tryd.ntmps49
      go_wp2_with fail
      refine (HR.out _).mono ?_
      rintro e w1 ⟨rfl, rfl⟩
      go_wp2
      go_ret
      exact ⟨_, rfl, by rw [e1.out]; exact ow_lit _ _ _ _ _, bmore (Below.refl _ _) _⟩
theorem cases8 {k : Nat} (h : k ≤ 8) : k = 0 ∨ k = 1 ∨ k = 2 ∨ k = 3 ∨ k = 4 ∨ k = 5 ∨ k = 6 ∨ k = 7 ∨ k = 8 := by omega
theorem pieceSlot_calls (k x : Nat) (w : World) (hk : k ≤ 8) (hx : x ≤ 131071) :
    Calls Tryd.prog 50 #[.int .i64 (k : Int), .int .i64 (x : Int)] w fun e w' => e = .returned (.agg #[.int .i64 ((x % 2 ^ k : Nat) : Int), .int .i64 1, .int .i64 ((2 ^ k : Nat) : Int)]) ∧ Below w.heap.size w w' := by
  have HX : Hid (∀ t : Nat, (x : Int).tmod (t : Int) = ((x % t : Nat) : Int)) := fun t => by rw [Int.tmod_eq_emod_of_nonneg (by omega)]; omega
  have hx0 : 0 ≤ (x : Int) ∧ (x : Int) ≤ 131071 := by omega
  clear hx
  obtain ⟨x0, x1⟩ := hx0
  rcases cases8 hk with rfl | rfl | rfl | rfl | rfl | rfl | rfl | rfl | rfl
  · have h1 := HX.out 1
    have H : Hid (x % 2 ^ 0 = 0) := Nat.mod_one x
    clear HX hk
    generalize (x : Int) = y at *
    go_enter Tryd.func50, Tryd.ntmps50
    go_wp2
    exact bodyPost_ret (v := .agg #[.int .i64 0, .int .i64 1, .int .i64 1]) (by simp [results, Tryd.results50, go_sem]) rfl ⟨by rw [H.out]; rfl, bmore (Below.refl _ _) _⟩
  · have hm : (x : Int).tmod 2 = ((x % 2 ^ 1 : Nat) : Int) := HX.out 2
    have hm2 : (x : Int) % 2 = ((x % 2 ^ 1 : Nat) : Int) := by omega
    have hr : 0 ≤ ((x % 2 ^ 1 : Nat) : Int) ∧ ((x % 2 ^ 1 : Nat) : Int) < 2 := by omega
    clear HX hk
    generalize (x : Int) = y at *
    generalize hr0 : ((x % 2 ^ 1 : Nat) : Int) = r at *
    have Hr := hid hr0
    clear hr0
    obtain ⟨r0, r1⟩ := hr
    go_enter Tryd.func50, Tryd.ntmps50
    go_wp2
    exact bodyPost_ret (v := .agg #[.int .i64 r, .int .i64 1, .int .i64 2]) (by simp [results, Tryd.results50, go_sem]) rfl ⟨by first | rfl | (rw [Hr.out]; rfl), bmore (Below.refl _ _) _⟩
  · have hm : (x : Int).tmod 4 = ((x % 2 ^ 2 : Nat) : Int) := HX.out 4
    have hm2 : (x : Int) % 4 = ((x % 2 ^ 2 : Nat) : Int) := by omega
    have hr : 0 ≤ ((x % 2 ^ 2 : Nat) : Int) ∧ ((x % 2 ^ 2 : Nat) : Int) < 4 := by omega
    clear HX hk
    generalize (x : Int) = y at *
    generalize hr0 : ((x % 2 ^ 2 : Nat) : Int) = r at *
    have Hr := hid hr0
    clear hr0
    obtain ⟨r0, r1⟩ := hr
    go_enter Tryd.func50, Tryd.ntmps50
    go_wp2
    exact bodyPost_ret (v := .agg #[.int .i64 r, .int .i64 1, .int .i64 4]) (by simp [results, Tryd.results50, go_sem]) rfl ⟨by first | rfl | (rw [Hr.out]; rfl), bmore (Below.refl _ _) _⟩
  · have hm : (x : Int).tmod 8 = ((x % 2 ^ 3 : Nat) : Int) := HX.out 8
    have hm2 : (x : Int) % 8 = ((x % 2 ^ 3 : Nat) : Int) := by omega
    have hr : 0 ≤ ((x % 2 ^ 3 : Nat) : Int) ∧ ((x % 2 ^ 3 : Nat) : Int) < 8 := by omega
    clear HX hk
    generalize (x : Int) = y at *
    generalize hr0 : ((x % 2 ^ 3 : Nat) : Int) = r at *
    have Hr := hid hr0
    clear hr0
    obtain ⟨r0, r1⟩ := hr
    go_enter Tryd.func50, Tryd.ntmps50
    go_wp2
    exact bodyPost_ret (v := .agg #[.int .i64 r, .int .i64 1, .int .i64 8]) (by simp [results, Tryd.results50, go_sem]) rfl ⟨by first | rfl | (rw [Hr.out]; rfl), bmore (Below.refl _ _) _⟩
  · have hm : (x : Int).tmod 16 = ((x % 2 ^ 4 : Nat) : Int) := HX.out 16
    have hm2 : (x : Int) % 16 = ((x % 2 ^ 4 : Nat) : Int) := by omega
    have hr : 0 ≤ ((x % 2 ^ 4 : Nat) : Int) ∧ ((x % 2 ^ 4 : Nat) : Int) < 16 := by omega
    clear HX hk
    generalize (x : Int) = y at *
    generalize hr0 : ((x % 2 ^ 4 : Nat) : Int) = r at *
    have Hr := hid hr0
    clear hr0
    obtain ⟨r0, r1⟩ := hr
    go_enter Tryd.func50, Tryd.ntmps50
    go_wp2
    exact bodyPost_ret (v := .agg #[.int .i64 r, .int .i64 1, .int .i64 16]) (by simp [results, Tryd.results50, go_sem]) rfl ⟨by first | rfl | (rw [Hr.out]; rfl), bmore (Below.refl _ _) _⟩
  · have hm : (x : Int).tmod 32 = ((x % 2 ^ 5 : Nat) : Int) := HX.out 32
    have hm2 : (x : Int) % 32 = ((x % 2 ^ 5 : Nat) : Int) := by omega
    have hr : 0 ≤ ((x % 2 ^ 5 : Nat) : Int) ∧ ((x % 2 ^ 5 : Nat) : Int) < 32 := by omega
    clear HX hk
    generalize (x : Int) = y at *
    generalize hr0 : ((x % 2 ^ 5 : Nat) : Int) = r at *
    have Hr := hid hr0
    clear hr0
    obtain ⟨r0, r1⟩ := hr
    go_enter Tryd.func50, Tryd.ntmps50
    go_wp2
    exact bodyPost_ret (v := .agg #[.int .i64 r, .int .i64 1, .int .i64 32]) (by simp [results, Tryd.results50, go_sem]) rfl ⟨by first | rfl | (rw [Hr.out]; rfl), bmore (Below.refl _ _) _⟩
  · have hm : (x : Int).tmod 64 = ((x % 2 ^ 6 : Nat) : Int) := HX.out 64
    have hm2 : (x : Int) % 64 = ((x % 2 ^ 6 : Nat) : Int) := by omega
    have hr : 0 ≤ ((x % 2 ^ 6 : Nat) : Int) ∧ ((x % 2 ^ 6 : Nat) : Int) < 64 := by omega
    clear HX hk
    generalize (x : Int) = y at *
    generalize hr0 : ((x % 2 ^ 6 : Nat) : Int) = r at *
    have Hr := hid hr0
    clear hr0
    obtain ⟨r0, r1⟩ := hr
    go_enter Tryd.func50, Tryd.ntmps50
    go_wp2
    exact bodyPost_ret (v := .agg #[.int .i64 r, .int .i64 1, .int .i64 64]) (by simp [results, Tryd.results50, go_sem]) rfl ⟨by first | rfl | (rw [Hr.out]; rfl), bmore (Below.refl _ _) _⟩
  · have hm : (x : Int).tmod 128 = ((x % 2 ^ 7 : Nat) : Int) := HX.out 128
    have hm2 : (x : Int) % 128 = ((x % 2 ^ 7 : Nat) : Int) := by omega
    have hr : 0 ≤ ((x % 2 ^ 7 : Nat) : Int) ∧ ((x % 2 ^ 7 : Nat) : Int) < 128 := by omega
    clear HX hk
    generalize (x : Int) = y at *
    generalize hr0 : ((x % 2 ^ 7 : Nat) : Int) = r at *
    have Hr := hid hr0
    clear hr0
    obtain ⟨r0, r1⟩ := hr
    go_enter Tryd.func50, Tryd.ntmps50
    go_wp2
    exact bodyPost_ret (v := .agg #[.int .i64 r, .int .i64 1, .int .i64 128]) (by simp [results, Tryd.results50, go_sem]) rfl ⟨by first | rfl | (rw [Hr.out]; rfl), bmore (Below.refl _ _) _⟩
  · have hm : (x : Int).tmod 256 = ((x % 2 ^ 8 : Nat) : Int) := HX.out 256
    have hm2 : (x : Int) % 256 = ((x % 2 ^ 8 : Nat) : Int) := by omega
    have hr : 0 ≤ ((x % 2 ^ 8 : Nat) : Int) ∧ ((x % 2 ^ 8 : Nat) : Int) < 256 := by omega
    clear HX hk
    generalize (x : Int) = y at *
    generalize hr0 : ((x % 2 ^ 8 : Nat) : Int) = r at *
    have Hr := hid hr0
    clear hr0
    obtain ⟨r0, r1⟩ := hr
    go_enter Tryd.func50, Tryd.ntmps50
    go_wp2
    exact bodyPost_ret (v := .agg #[.int .i64 r, .int .i64 1, .int .i64 256]) (by simp [results, Tryd.results50, go_sem]) rfl ⟨by first | rfl | (rw [Hr.out]; rfl), bmore (Below.refl _ _) _⟩
end Go.Proofs.YthecfboplfmdmaaDoor.ValJ
