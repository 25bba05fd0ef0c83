/- FlipBits, the program's and the model's: both return the same code and the same bytes at any list of bytes and any two numbers; the program's answer is new memory. Condition: the library's table holds what its text lays. -/
import Derived.Test.YtlljdehjlbmgcaaDoorFlip
namespace Go.Proofs.YtlljdehjlbmgcaaDoor.FlipF
open Go.ChangeShapes Go.WideShapes Go.ChangeAt Go.RowKit Go.Proofs.YtlljdehjlbmgcaaDoor.Num Go.Proofs.YtlljdehjlbmgcaaDoor.Sli Go.Proofs.YtlljdehjlbmgcaaDoor.App Go.Proofs.YtlljdehjlbmgcaaDoor.Byt Go.Proofs.YtlljdehjlbmgcaaDoor.CrcM Go.Proofs.YtlljdehjlbmgcaaDoor.Crc Go.Proofs.YtlljdehjlbmgcaaDoor.Div Go.Proofs.YtlljdehjlbmgcaaDoor.FlipM Go.Proofs.YtlljdehjlbmgcaaDoor.Bits Go.Proofs.YtlljdehjlbmgcaaDoor.Flip

/-- The place of the last 1 of the first k digits. -/
def lpN (b L : Nat) : Nat → Nat
  | 0 => 0
  | k + 1 => if dig b L k = 1 then k else lpN b L k
/-- The place of the last 1. -/
def lastP (b L : Nat) : Nat := lpN b L L
theorem lpN_of {b L P : Nat} (h : Last b L P) (k : Nat) (hk : P < k) (hL : k ≤ L) : lpN b L k = P := by
  induction k with
  | zero => omega
  | succ k ih =>
    simp only [lpN]
    by_cases e : k = P
    · rw [e, if_pos h.2.1]
    · rw [if_neg (by rw [h.2.2 k (by omega) (by omega)]; decide)]
      exact ih (by omega) (by omega)
theorem lastP_of {b L P : Nat} (h : Last b L P) : lastP b L = P := lpN_of h L h.1 (Nat.le_refl _)
theorem last_any {b L : Nat} (h : Len b L) : ∃ t, (b * 2 ^ (16 - L)) % 2 ^ (t + 1) = 2 ^ t := by
  apply low_of
  have := Nat.two_pow_pos (16 - L)
  have := Nat.two_pow_pos (L - 1)
  have hb : 0 < b := by have := h.2.2.1; omega
  exact Nat.mul_pos hb (by omega)
/-- Both numbers are what they have to be. -/
abbrev okA (xs : List Int) (a b : Int) : Prop := xs.length ≤ 160 ∧ 0 ≤ a ∧ a ≤ 8 * (xs.length : Int) - 1 ∧ 1 ≤ b ∧ b ≤ 65535
def lenB (b : Int) : Nat := Nat.log2 b.toNat + 1
def plB (b : Int) : Nat := lastP b.toNat (lenB b)
def flC (xs : List Int) (a b : Int) : Int := if 160 < xs.length then 2 else if okA xs a b ∧ a.toNat + plB b < 8 * xs.length then 0 else 3
def flL (xs : List Int) (a b : Int) : List Int := if okA xs a b ∧ a.toNat + plB b < 8 * xs.length then flN xs a.toNat b.toNat (lenB b) (plB b + 1) else []
theorem flL_small (xs : List Int) (a b : Int) : (flL xs a b).length ≤ 1048576 := by
  unfold flL
  split
  · rename_i h; rw [flN_len]; have := h.1.1; omega
  · simp
theorem fl_many {xs : List Int} {a b : Int} (h : 160 < xs.length) : flC xs a b = 2 ∧ flL xs a b = [] := by
  unfold flC flL; rw [if_pos h, if_neg (by intro k; have := k.1.1; omega)]; exact ⟨rfl, rfl⟩
theorem fl_bad {xs : List Int} {a b : Int} (h : xs.length ≤ 160) (k : ¬ (okA xs a b ∧ a.toNat + plB b < 8 * xs.length)) : flC xs a b = 3 ∧ flL xs a b = [] := by
  unfold flC flL; rw [if_neg (by omega), if_neg k, if_neg k]; exact ⟨rfl, rfl⟩
theorem fl_good {xs : List Int} {a b : Int} (k : okA xs a b ∧ a.toNat + plB b < 8 * xs.length) : flC xs a b = 0 ∧ flL xs a b = flN xs a.toNat b.toNat (lenB b) (plB b + 1) := by
  unfold flC flL; rw [if_neg (by have := k.1.1; omega), if_pos k, if_pos k]; exact ⟨rfl, rfl⟩

/-- What the program's walk is told ahead. -/
theorem flip_facts (A B n L k t : Nat) (hA : A < 8 * n) (hB1 : 1 ≤ B) (hB2 : B ≤ 65535) (hL : Len B L) (hk : L + k = 16) (ht : (B * 2 ^ k) % 2 ^ (t + 1) = 2 ^ t) :
    ∃ X P : Nat, X < 65536 ∧ Last B L P ∧ P = 15 - t ∧ (∀ w, Calls Tryd.prog 25 #[.int .u16 B] w fun e w' => e = .returned (.int .u16 X) ∧ w' = w) ∧
      (∀ w, Tab w → Calls Tryd.prog 26 #[.int .u16 X] w fun e w' => e = .returned (.int .i64 P) ∧ w' = w) ∧ (∀ w j, j ≤ P → Calls Tryd.prog 28 #[.int .u16 X, .int .i64 j] w fun e w' => e = .returned (.bool (decide (dig B L j = 1))) ∧ w' = w) ∧
      inB 0 (8 * (n : Int) - 1) A = true ∧ inB 1 65535 B = true ∧ (B : Int) % 65536 = B ∧ P ≤ 15 := by
  have hlast := last_of hL (show (B * 2 ^ (16 - L)) % 2 ^ (t + 1) = 2 ^ t by rw [show 16 - L = k by omega]; exact ht)
  have hxlt : B * 2 ^ k < 65536 := by have := top_lt hL; rwa [show 16 - L = k by omega] at this
  have hL16 := hL.2.1
  have hPL := hlast.2.1
  refine ⟨B * 2 ^ k, 15 - t, hxlt, hlast.2, rfl, fun w => firstAhead_calls B L k w hL (by omega) hk, fun w hT => lastPlace_calls _ t w hT hxlt ht, fun w j hj => ?_, inB_yes (by omega) (by omega), inB_yes (by omega) (by omega), by omega, by omega⟩
  have hd := dig_top (b := B) (L := L) (i := j) hL16 (by omega)
  rw [show 16 - L = k by omega] at hd
  have := isAt_calls (B * 2 ^ k) j w hxlt (by omega)
  rwa [hd] at this

set_option maxHeartbeats 2000000 in
theorem implFlip_out (a0 : Option Addr) (cap n A B L k t : Nat) (w : World) (hT : Tab w) (h160 : n ≤ 160) (hA : A < 8 * n) (hB1 : 1 ≤ B) (hB2 : B ≤ 65535)
    (hL : Len B L) (hk : L + k = 16) (ht : (B * 2 ^ k) % 2 ^ (t + 1) = 2 ^ t) (hout : ¬ A + (15 - t) < 8 * n) :
    Calls Tryd.prog 7 #[.slice a0 n cap, .int .i64 A, .int .i64 B] w fun e w' => e = .returned (.agg #[.int .i64 3, .slice none 0 0]) ∧ Below w.heap.size w w' := by
  obtain ⟨X, P, hX, hlast, hP, h1, h2, h3, in1, in2, hB16, hP15⟩ := flip_facts A B n L k t hA hB1 hB2 hL hk ht
  have HT := hid (hT.later (bmore (Below.refl _ w) (.cells #[.int .i64 0, .slice none 0 0] 27)))
  have hin' : ¬ ((A : Int) + P < 8 * n) := by omega
  have i1 : (n : Int) ≤ 160 := by omega
  have H1 := hid h1
  have H2 := hid h2
  clear h1 h2 h3 hlast ht hL hT hout hP
  go_enter Tryd.func7, Tryd.ntmps7
  go_wp2_with (first | (go_at_call 24; refine (isWithin_calls _ _ _ _).mono ?_; rintro e w' ⟨rfl, rfl⟩) | (go_at_call 25; refine (H1.out _).mono ?_; rintro e w' ⟨rfl, rfl⟩) | (go_at_call 26; refine (H2.out _ HT.out).mono ?_; rintro e w' ⟨rfl, rfl⟩))
  exact bodyPost_ret (v := .agg #[.int .i64 3, .slice none 0 0]) (by simp [results, Tryd.results7, go_sem]) rfl ⟨rfl, (Below.refl _ _).alloc (Nat.le_refl _) _⟩

set_option maxHeartbeats 2000000 in
theorem implFlip_in (a0 : Option Addr) (cap n A B L k t : Nat) (xs : List Int) (w : World) (hT : Tab w) (h : Sl .u8 w (.slice a0 n cap) xs) (hn : n = xs.length) (hx : BytesL xs) (h160 : n ≤ 160) (hA : A < 8 * n) (hB1 : 1 ≤ B) (hB2 : B ≤ 65535)
    (hL : Len B L) (hk : L + k = 16) (ht : (B * 2 ^ k) % 2 ^ (t + 1) = 2 ^ t) (hin : A + (15 - t) < 8 * n) :
    Calls Tryd.prog 7 #[.slice a0 n cap, .int .i64 A, .int .i64 B] w fun e w' => ∃ v', e = .returned (.agg #[.int .i64 0, v']) ∧ OwB w.heap.size w' v' (flN xs A B L (15 - t + 1)) ∧ Below w.heap.size w w' := by
  obtain ⟨X, P, hX, hlast, hP, h1, h2, h3, in1, in2, hB16, hP15⟩ := flip_facts A B n L k t hA hB1 hB2 hL hk ht
  rw [← hP] at hin ⊢
  have HT := hid (hT.later (bmore (Below.refl _ w) (.cells #[.int .i64 0, .slice none 0 0] 27)))
  have HS := hid (h.later (bmore (Below.refl _ w) (.cells #[.int .i64 0, .slice none 0 0] 27)))
  have hin' : (A : Int) + P < 8 * n := by omega
  have i1 : (n : Int) ≤ 160 := by omega
  have H1 := hid h1
  have H2 := hid h2
  have H3 := hid h3
  have Hn := hid hn
  clear h1 h2 h3 hlast ht hL hT hP hn h
  go_enter Tryd.func7, Tryd.ntmps7
  go_wp2_with (first | (go_at_call 24; refine (isWithin_calls _ _ _ _).mono ?_; rintro e w' ⟨rfl, rfl⟩) | (go_at_call 25; refine (H1.out _).mono ?_; rintro e w' ⟨rfl, rfl⟩) | (go_at_call 26; refine (H2.out _ HT.out).mono ?_; rintro e w' ⟨rfl, rfl⟩))
  refine (clone_calls _ xs _ HS.out (by have := Hn.out; omega)).mono ?_
  rintro e w1 ⟨v1, rfl, ho1, hb1⟩
  have hT1 := HT.out.later hb1
  obtain ⟨g, c1, hv1, hg1, hlt1⟩ := World.ownsRow.form ho1 (by have := Hn.out; omega)
  rw [← Hn.out] at hv1
  subst hv1
  have hz1 : w.heap.size + 1 ≤ w1.heap.size := by have := hb1.size; simpa using this
  have hgR : w.heap.size + 1 ≤ g := by simpa using hg1
  have HO1 : Hid (OwB (w.heap.size + 1) w1 (.slice (some ⟨g, 0, none⟩) n c1) (flN xs A B L 0)) := hid (show OwB (w.heap.size + 1) w1 (.slice (some ⟨g, 0, none⟩) n c1) xs by simpa using ho1)
  have HB1 := hid (hb1.mono (B' := w.heap.size + 1) (by simp))
  have HT1 := hid hT1
  clear ho1 hb1 hT1 hg1 HS
  go_wp2_with (go_at_call 26; refine (H2.out _ HT1.out).mono ?_; rintro e w' ⟨rfl, hw'⟩; subst hw')
  go_loopw [44] (fun i wr => ∃ j : Nat, j ≤ P + 1 ∧ i = .int .i64 j ∧ Hid (OwB (w.heap.size + 1) wr (.slice (some ⟨g, 0, none⟩) n c1) (flN xs A B L j)) ∧ Hid (Below (w.heap.size + 1) (w.alloc (.cells #[.int .i64 0, .slice none 0 0] 27)) wr)) (fun i _ => P + 1 - (intOf i).toNat)
  case atStart => exact ⟨0, Nat.zero_le _, rfl, HO1.out, HB1.out⟩
  case round =>
    clear HO1 HB1 HT1
    obtain ⟨j, hj, rfl, ho, hb⟩ := hrel
    by_cases hlt : j < P + 1
    · have hjI : (j : Int) < (P : Int) + 1 := by omega
      have hfl := flN_len xs A B L j
      have hfb := flN_bd hx A B L j
      have HS : Hid (flN xs A B L (j + 1) = if dig B L j = 1 then flip1 (flN xs A B L j) (A + j) else flN xs A B L j) := rfl
      have H3j := hid (fun w => H3.out w j (by omega))
      by_cases hd : dig B L j = 1
      · rw [if_pos hd] at HS
        have Hd : Hid (decide (dig B L j = 1) = true) := decide_eq_true hd
        rw [Hd.out] at H3j
        have hwz := hb.out.size
        simp at hwz
        have HTB := hid (turnBit_calls (w.heap.size + 1) g c1 n (flN xs A B L j) (A + j) wr ho.out (by rw [hfl]; exact Hn.out) hfb (by omega) (by omega))
        rw [show (((A + j : Nat)) : Int) = (A : Int) + j by omega] at HTB
        clear hd hfl hfb
        go_wp2_with (go_at_call 28; refine (H3j.out _).mono ?_; rintro e w' ⟨rfl, hw'⟩; subst hw')
        refine HTB.out.mono ?_
        rintro e w2 ⟨rfl, ho2, hg2⟩
        have HO2 := hid ho2
        have HB2 := hid (hb.out.trans (below_of_grown hg2 hwz (fun j e => by cases e; exact hgR)))
        clear ho2 hg2 HTB ho hb
        go_wp2
        go_roundw
        case rel => exact ⟨j + 1, by omega, by go_num, by rw [HS.out]; exact HO2.out, HB2.out⟩
        case measure => simp [intOf]; omega
      · rw [if_neg hd] at HS
        have Hd : Hid (decide (dig B L j = 1) = false) := decide_eq_false hd
        rw [Hd.out] at H3j
        clear hd hfl hfb
        go_wp2_with (go_at_call 28; refine (H3j.out _).mono ?_; rintro e w' ⟨rfl, hw'⟩; subst hw')
        go_roundw
        case rel => exact ⟨j + 1, by omega, by go_num, by rw [HS.out]; exact ho.out, hb.out⟩
        case measure => simp [intOf]; omega
    · have he : j = P + 1 := by omega
      subst he
      have c0 := hb.out.cell (p := ⟨w.heap.size, 0, none⟩) (by simp)
      have c1' := hb.out.cell (p := ⟨w.heap.size, 1, none⟩) (by simp)
      have f0 := hb.out.frozen (p := ⟨w.heap.size, 0, none⟩) (by simp)
      have f1 := hb.out.frozen (p := ⟨w.heap.size, 1, none⟩) (by simp)
      have HB := hid (bthen (bmore (Below.refl _ w) (.cells #[.int .i64 0, .slice none 0 0] 27)) (hb.out.mono (by simp)))
      go_wp2
      exact bodyPost_ret (v := .agg #[.int .i64 0, .slice (some ⟨g, 0, none⟩) n c1]) (by simp [results, Tryd.results7, go_sem, c0, c1']) rfl ⟨_, rfl, ho.out.set2 _ _, below_set2 HB.out _ _⟩
theorem okA_not {xs : List Int} {a b : Int} (h : inB 0 (8 * (xs.length : Int) - 1) a = false ∨ inB 1 65535 b = false) : ¬ (okA xs a b ∧ a.toNat + plB b < 8 * xs.length) := by
  rintro ⟨⟨h1, h2, h3, h4, h5⟩, _⟩
  rcases h with h | h
  · have := of_notB h; omega
  · have := of_notB h; omega
theorem okA_facts {xs : List Int} {a b : Int} (h160 : xs.length ≤ 160) (h1 : inB 0 (8 * (xs.length : Int) - 1) a = true) (h2 : inB 1 65535 b = true) :
    okA xs a b ∧ a = (a.toNat : Int) ∧ b = (b.toNat : Int) ∧ a.toNat < 8 * xs.length ∧ 1 ≤ b.toNat ∧ b.toNat ≤ 65535 ∧ Len b.toNat (lenB b) ∧ lenB b + (16 - lenB b) = 16 ∧ ∃ t, (b.toNat * 2 ^ (16 - lenB b)) % 2 ^ (t + 1) = 2 ^ t ∧ plB b = 15 - t ∧ Last b.toNat (lenB b) (plB b) := by
  have e1 := of_inB h1
  have e2 := of_inB h2
  have hL := len_of b.toNat (by omega) (by omega)
  obtain ⟨t, ht⟩ := last_any hL
  have hl := (last_of hL ht).2
  refine ⟨⟨h160, by omega, by omega, by omega, by omega⟩, by omega, by omega, by omega, by omega, by omega, hL, by have := hL.2.1; unfold lenB; omega, t, ht, lastP_of hl, ?_⟩
  unfold plB
  rw [show lastP b.toNat (lenB b) = 15 - t from lastP_of hl]
  exact hl
/-- The program's answer. -/
theorem implFlip_calls (v : Value) (xs : List Int) (a b : Int) (w : World) (hT : Tab w) (h : Sl .u8 w v xs) (hx : BytesL xs) :
    Calls Tryd.prog 7 #[v, .int .i64 a, .int .i64 b] w fun e w' => ∃ v', e = .returned (.agg #[.int .i64 (flC xs a b), v']) ∧ OwB w.heap.size w' v' (flL xs a b) ∧ Below w.heap.size w w' := by
  by_cases hm : 160 < xs.length
  · obtain ⟨k1, k2⟩ := fl_many (a := a) (b := b) hm
    rw [k1, k2]
    have h' : (160 : Int) < xs.length := by omega
    obtain ⟨a0, cap, rfl, _⟩ := h
    clear k1 k2
    go_enter Tryd.func7, Tryd.ntmps7
    go_wp2
    exact bodyPost_ret (v := .agg #[.int .i64 2, .slice none 0 0]) (by simp [results, Tryd.results7, go_sem]) rfl ⟨_, rfl, World.ownsRow_nil _ _ _ _, (Below.refl _ _).alloc (Nat.le_refl _) _⟩
  · have h' : (xs.length : Int) ≤ 160 := by omega
    cases h1 : inB 0 (8 * (xs.length : Int) - 1) a
    · obtain ⟨k1, k2⟩ := fl_bad (xs := xs) (a := a) (b := b) (by omega) (okA_not (Or.inl h1))
      rw [k1, k2]
      obtain ⟨a0, cap, rfl, _⟩ := h
      clear k1 k2
      go_enter Tryd.func7, Tryd.ntmps7
      go_wp2_with (go_at_call 24; refine (isWithin_calls _ _ _ _).mono ?_; rintro e w' ⟨rfl, rfl⟩)
      exact bodyPost_ret (v := .agg #[.int .i64 3, .slice none 0 0]) (by simp [results, Tryd.results7, go_sem]) rfl ⟨_, rfl, World.ownsRow_nil _ _ _ _, (Below.refl _ _).alloc (Nat.le_refl _) _⟩
    · cases h2 : inB 1 65535 b
      · obtain ⟨k1, k2⟩ := fl_bad (xs := xs) (a := a) (b := b) (by omega) (okA_not (Or.inr h2))
        rw [k1, k2]
        obtain ⟨a0, cap, rfl, _⟩ := h
        clear k1 k2
        go_enter Tryd.func7, Tryd.ntmps7
        go_wp2_with (go_at_call 24; refine (isWithin_calls _ _ _ _).mono ?_; rintro e w' ⟨rfl, rfl⟩)
        exact bodyPost_ret (v := .agg #[.int .i64 3, .slice none 0 0]) (by simp [results, Tryd.results7, go_sem]) rfl ⟨_, rfl, World.ownsRow_nil _ _ _ _, (Below.refl _ _).alloc (Nat.le_refl _) _⟩
      · obtain ⟨hok, ea, eb, hA, hB1, hB2, hL, hk, t, ht, hP, _⟩ := okA_facts (by omega) h1 h2
        by_cases hin : a.toNat + plB b < 8 * xs.length
        · obtain ⟨k1, k2⟩ := fl_good ⟨hok, hin⟩
          rw [k1, k2, hP]
          rw [hP] at hin
          have hw := h
          obtain ⟨a0, cap, rfl, _⟩ := h
          have := implFlip_in a0 cap xs.length a.toNat b.toNat (lenB b) (16 - lenB b) t xs w hT hw rfl hx (by omega) hA hB1 hB2 hL hk ht hin
          rw [← ea, ← eb] at this
          exact this
        · obtain ⟨k1, k2⟩ := fl_bad (xs := xs) (a := a) (b := b) (by omega) (fun k => hin k.2)
          rw [k1, k2]
          rw [hP] at hin
          obtain ⟨a0, cap, rfl, _⟩ := h
          have := implFlip_out a0 cap xs.length a.toNat b.toNat (lenB b) (16 - lenB b) t w hT (by omega) hA hB1 hB2 hL hk ht hin
          rw [← ea, ← eb] at this
          refine this.mono ?_
          rintro e w' ⟨rfl, hb⟩
          exact ⟨_, rfl, World.ownsRow_nil _ _ _ _, hb⟩

theorem dig_and (B L i : Nat) (hB : B < 65536) : bits .and .i64 ((B : Int) / 2 ^ (L - 1 - i)) 1 = ((dig B L i : Nat) : Int) := by
  unfold dig
  have e : (B : Int) / 2 ^ (L - 1 - i) = ((B / 2 ^ (L - 1 - i) : Nat) : Int) := by simp
  have hl : B / 2 ^ (L - 1 - i) ≤ B := Nat.div_le_self _ _
  rw [e, and64 _ (by omega)]
theorem spec_math {ys : List Int} {p q m : Nat} {x : Int} (hy : BytesL ys) (hq : p / 8 = q) (hr : p % 8 = m) (hx : ys.getD q 0 = x) : ys.set q (bits .xor .u8 x (2 ^ (7 - m) % 256)) = flip1 ys p := by
  subst hq hr hx
  obtain ⟨h1, h2⟩ := getD_bd hy (p / 8)
  unfold flip1
  congr 1
  have hl : 2 ^ (7 - p % 8) < 256 := Nat.lt_of_le_of_lt (Nat.pow_le_pow_right (by decide) (show 7 - p % 8 ≤ 7 by omega)) (by decide)
  have e : (2 : Int) ^ (7 - p % 8) % 256 = ((2 ^ (7 - p % 8) : Nat) : Int) := by
    have : (2 : Int) ^ (7 - p % 8) = ((2 ^ (7 - p % 8) : Nat) : Int) := by simp
    rw [this]
    generalize 2 ^ (7 - p % 8) = z at *
    omega
  obtain ⟨X, hX⟩ := Int.eq_ofNat_of_zero_le h1
  rw [hX, e, u8_xor_nat X _ (by omega) hl, Int.toNat_natCast]
set_option maxHeartbeats 2000000 in
theorem specFlip_in (a0 : Option Addr) (cap n A B L P : Nat) (xs : List Int) (w : World) (h : Sl .u8 w (.slice a0 n cap) xs) (hn : n = xs.length) (hx : BytesL xs) (h160 : n ≤ 160) (hA : A < 8 * n) (hB1 : 1 ≤ B) (hB2 : B ≤ 65535)
    (hL : Len B L) (hP : Last B L P) :
    Calls Tryd.prog 8 #[.slice a0 n cap, .int .i64 A, .int .i64 B] w fun e w' => ∃ v', (A + P < 8 * n → e = .returned (.agg #[.int .i64 0, v']) ∧ OwB w.heap.size w' v' (flN xs A B L (P + 1))) ∧ (¬ A + P < 8 * n → e = .returned (.agg #[.int .i64 3, v']) ∧ OwB w.heap.size w' v' []) ∧ Below w.heap.size w w' := by
  have HS := hid (h.later (bmore (Below.refl _ w) (.cells #[.int .i64 0, .slice none 0 0] 27)))
  have in1 : inB 0 ((n : Int) * 8 - 1) A = true := inB_yes (by omega) (by omega)
  have in2 : inB 1 65535 B = true := inB_yes (by omega) (by omega)
  have i1 : (n : Int) ≤ 160 := by omega
  have hL16 := hL.2.1
  have HL := hid hL
  have HP := hid hP
  have Hn := hid hn
  clear hL hP hn h
  go_enter Tryd.func8, Tryd.ntmps8
  go_wp2_with (go_at_call 30; refine (l1In_calls _ _ _ _).mono ?_; rintro e w' ⟨rfl, rfl⟩)
  refine (l1Copy_calls _ xs _ HS.out (by have := Hn.out; omega)).mono ?_
  rintro e w1 ⟨g, c1, rfl, ho1, hb1⟩
  have hz1 : w.heap.size + 1 ≤ w1.heap.size := by have := hb1.size; simpa using this
  have hgR : w.heap.size + 1 ≤ g := by have := (ho1.block g rfl).1; simpa using this
  have HO1 : Hid (OwB (w.heap.size + 1) w1 (.slice (some ⟨g, 0, none⟩) n c1) (flN xs A B L 0)) := hid (show OwB (w.heap.size + 1) w1 (.slice (some ⟨g, 0, none⟩) n c1) xs by rw [Hn.out]; simpa using ho1)
  have HB1 := hid (hb1.mono (B' := w.heap.size + 1) (by simp))
  rw [← Hn.out]
  clear ho1 hb1 HS
  go_wp2_with (go_at_call 32; refine (l2Length_calls B L _ HL.out (by omega)).mono ?_; rintro e w' ⟨rfl, hw'⟩; subst hw')
  go_loopw [10] (fun i wr => ∃ j : Nat, j ≤ L ∧ i = .int .i64 j ∧ Hid (OwB (w.heap.size + 1) wr (.slice (some ⟨g, 0, none⟩) n c1) (flN xs A B L j)) ∧ Hid (Below (w.heap.size + 1) (w.alloc (.cells #[.int .i64 0, .slice none 0 0] 27)) wr) ∧ Hid (∀ i, i < j → dig B L i = 1 → A + i < 8 * n)) (fun i _ => L - (intOf i).toNat)
  case atStart => exact ⟨0, Nat.zero_le _, rfl, HO1.out, HB1.out, fun i hi => absurd hi (by omega)⟩
  case round =>
    clear HO1 HB1
    obtain ⟨j, hj, rfl, ho, hb, hall⟩ := hrel
    by_cases hlt : j < L
    · have hjI : (j : Int) < (L : Int) := by omega
      have hda := dig_and B L j (by omega)
      have hfl := flN_len xs A B L j
      have hfb := flN_bd hx A B L j
      have HS : Hid (flN xs A B L (j + 1) = if dig B L j = 1 then flip1 (flN xs A B L j) (A + j) else flN xs A B L j) := rfl
      have hd2 := dig_lt B L j
      by_cases hd : dig B L j = 1
      · rw [if_pos hd] at HS
        rw [hd] at hda
        by_cases hrng : A + j < 8 * n
        · have hr' : (A : Int) + j < (n : Int) * 8 := by omega
          have hwz := hb.out.size
          simp at hwz
          have e1 : ((A : Int) + j) / 8 = (((A + j) / 8 : Nat) : Int) := by omega
          have e2 : ((A : Int) + j) % 8 = (((A + j) % 8 : Nat) : Int) := by omega
          have hq : (A + j) / 8 < n := by omega
          have hr : (A + j) % 8 < 8 := by omega
          obtain ⟨c0, f0⟩ := ho.out.cellAt (by rw [hfl]; exact Hn.out) ((A + j) / 8) (by rw [hfl]; have := Hn.out; omega)
          have hset := ho.out.set (by rw [hfl]; exact Hn.out) ((A + j) / 8) (bits .xor .u8 ((flN xs A B L j).getD ((A + j) / 8) 0) (2 ^ (7 - (A + j) % 8) % 256))
          rw [spec_math hfb rfl rfl rfl] at hset
          have Hset := hid hset
          have Hd := hid hd
          clear hset hd hfb hfl
          generalize (flN xs A B L j).getD ((A + j) / 8) 0 = x at *
          generalize (A + j) / 8 = q at *
          generalize (A + j) % 8 = m at *
          go_wp2
          go_roundw
          case rel => exact ⟨j + 1, by omega, by go_num, by rw [HS.out]; exact Hset.out.1, hb.out.trans (below_of_grown Hset.out.2 hwz (fun j e => by cases e; exact hgR)), fun i hi h1 => by rcases Nat.lt_or_ge i j with h2 | h2; exact hall.out i h2 h1; omega⟩
          case measure => simp [intOf]; omega
        · have hr' : ¬ (A : Int) + j < (n : Int) * 8 := by omega
          have hbad : ¬ A + P < 8 * n := by
            intro hh
            rcases Nat.lt_or_ge P j with h1 | h1
            · have := HP.out.2.2 j h1 hlt; omega
            · omega
          have c0 := hb.out.cell (p := ⟨w.heap.size, 0, none⟩) (by simp)
          have c1' := hb.out.cell (p := ⟨w.heap.size, 1, none⟩) (by simp)
          have f0 := hb.out.frozen (p := ⟨w.heap.size, 0, none⟩) (by simp)
          have f1 := hb.out.frozen (p := ⟨w.heap.size, 1, none⟩) (by simp)
          have HB := hid (bthen (bmore (Below.refl _ w) (.cells #[.int .i64 0, .slice none 0 0] 27)) (hb.out.mono (by simp)))
          have Hbad := hid hbad
          clear hd hfb hfl hbad hrng
          go_wp2
          exact bodyPost_ret (v := .agg #[.int .i64 3, .slice none 0 0]) (by simp [results, Tryd.results8, go_sem, c0, c1']) rfl ⟨_, fun h => absurd h Hbad.out, fun _ => ⟨rfl, World.ownsRow_nil _ _ _ _⟩, below_set2 HB.out _ _⟩
      · rw [if_neg hd] at HS
        have hd0 : dig B L j = 0 := by omega
        rw [hd0] at hda
        have Hd := hid hd
        clear hd hfb hfl hd0 hd2
        go_wp2
        go_roundw
        case rel => exact ⟨j + 1, by omega, by go_num, by rw [HS.out]; exact ho.out, hb.out, fun i hi h1 => by rcases Nat.lt_or_ge i j with h2 | h2; exact hall.out i h2 h1; exact absurd (by rw [show i = j by omega] at h1; exact h1) Hd.out⟩
        case measure => simp [intOf]; omega
    · have he : j = L := by omega
      subst he
      have hgood : A + P < 8 * n := hall.out P HP.out.1 HP.out.2.1
      have c0 := hb.out.cell (p := ⟨w.heap.size, 0, none⟩) (by simp)
      have c1' := hb.out.cell (p := ⟨w.heap.size, 1, none⟩) (by simp)
      have f0 := hb.out.frozen (p := ⟨w.heap.size, 0, none⟩) (by simp)
      have f1 := hb.out.frozen (p := ⟨w.heap.size, 1, none⟩) (by simp)
      have HB := hid (bthen (bmore (Below.refl _ w) (.cells #[.int .i64 0, .slice none 0 0] 27)) (hb.out.mono (by simp)))
      have hrest := flN_rest xs A B j P HP.out (j - (P + 1)) (by have := HP.out.1; omega)
      rw [show P + 1 + (j - (P + 1)) = j by have := HP.out.1; omega] at hrest
      have HO : Hid (OwB (w.heap.size + 1) wr (.slice (some ⟨g, 0, none⟩) n c1) (flN xs A B j (P + 1))) := hid (by rw [← hrest]; exact ho.out)
      have Hgood := hid hgood
      clear hgood hrest
      go_wp2
      exact bodyPost_ret (v := .agg #[.int .i64 0, .slice (some ⟨g, 0, none⟩) n c1]) (by simp [results, Tryd.results8, go_sem, c0, c1']) rfl ⟨_, fun _ => ⟨rfl, HO.out.set2 _ _⟩, fun h => absurd Hgood.out h, below_set2 HB.out _ _⟩
/-- The model's answer. -/
theorem specFlip_calls (v : Value) (xs : List Int) (a b : Int) (w : World) (h : Sl .u8 w v xs) (hx : BytesL xs) :
    Calls Tryd.prog 8 #[v, .int .i64 a, .int .i64 b] w fun e w' => ∃ v', e = .returned (.agg #[.int .i64 (flC xs a b), v']) ∧ OwB w.heap.size w' v' (flL xs a b) ∧ Below w.heap.size w w' := by
  by_cases hm : 160 < xs.length
  · obtain ⟨k1, k2⟩ := fl_many (a := a) (b := b) hm
    rw [k1, k2]
    have h' : (160 : Int) < xs.length := by omega
    obtain ⟨a0, cap, rfl, _⟩ := h
    clear k1 k2
    go_enter Tryd.func8, Tryd.ntmps8
    go_wp2
    exact bodyPost_ret (v := .agg #[.int .i64 2, .slice none 0 0]) (by simp [results, Tryd.results8, go_sem]) rfl ⟨_, rfl, World.ownsRow_nil _ _ _ _, (Below.refl _ _).alloc (Nat.le_refl _) _⟩
  · have h' : (xs.length : Int) ≤ 160 := by omega
    cases h1 : inB 0 (8 * (xs.length : Int) - 1) a
    · obtain ⟨k1, k2⟩ := fl_bad (xs := xs) (a := a) (b := b) (by omega) (okA_not (Or.inl h1))
      rw [k1, k2]
      obtain ⟨a0, cap, rfl, _⟩ := h
      rw [Int.mul_comm] at h1
      clear k1 k2
      go_enter Tryd.func8, Tryd.ntmps8
      go_wp2_with (go_at_call 30; refine (l1In_calls _ _ _ _).mono ?_; rintro e w' ⟨rfl, rfl⟩)
      exact bodyPost_ret (v := .agg #[.int .i64 3, .slice none 0 0]) (by simp [results, Tryd.results8, go_sem]) rfl ⟨_, rfl, World.ownsRow_nil _ _ _ _, (Below.refl _ _).alloc (Nat.le_refl _) _⟩
    · cases h2 : inB 1 65535 b
      · obtain ⟨k1, k2⟩ := fl_bad (xs := xs) (a := a) (b := b) (by omega) (okA_not (Or.inr h2))
        rw [k1, k2]
        obtain ⟨a0, cap, rfl, _⟩ := h
        rw [Int.mul_comm] at h1
        clear k1 k2
        go_enter Tryd.func8, Tryd.ntmps8
        go_wp2_with (go_at_call 30; refine (l1In_calls _ _ _ _).mono ?_; rintro e w' ⟨rfl, rfl⟩)
        exact bodyPost_ret (v := .agg #[.int .i64 3, .slice none 0 0]) (by simp [results, Tryd.results8, go_sem]) rfl ⟨_, rfl, World.ownsRow_nil _ _ _ _, (Below.refl _ _).alloc (Nat.le_refl _) _⟩
      · obtain ⟨hok, ea, eb, hA, hB1, hB2, hL, _, _, _, _, hP⟩ := okA_facts (by omega) h1 h2
        have hw := h
        obtain ⟨a0, cap, rfl, _⟩ := h
        have := specFlip_in a0 cap xs.length a.toNat b.toNat (lenB b) (plB b) xs w hw rfl hx (by omega) hA hB1 hB2 hL hP
        rw [← ea, ← eb] at this
        refine this.mono ?_
        rintro e w' ⟨v', q1, q2, hb⟩
        by_cases hin : a.toNat + plB b < 8 * xs.length
        · obtain ⟨k1, k2⟩ := fl_good ⟨hok, hin⟩
          rw [k1, k2]
          exact ⟨v', (q1 hin).1, (q1 hin).2, hb⟩
        · obtain ⟨k1, k2⟩ := fl_bad (xs := xs) (a := a) (b := b) (by omega) (fun k => hin k.2)
          rw [k1, k2]
          exact ⟨v', (q2 hin).1, (q2 hin).2, hb⟩
end Go.Proofs.YtlljdehjlbmgcaaDoor.FlipF
