/- CrcOf, the program's and the model's: both return the same code and the same sum at any list of bytes; they turn nothing that was there. -/
import Derived.Test.YtlljdehjlbmgcaaDoorSli
import Derived.Test.YtlljdehjlbmgcaaDoorCrcM
namespace Go.Proofs.YtlljdehjlbmgcaaDoor.Crc
open Go.ChangeShapes Go.WideShapes Go.ChangeAt Go.RowKit Go.Proofs.YtlljdehjlbmgcaaDoor.Num Go.Proofs.YtlljdehjlbmgcaaDoor.Sli Go.Proofs.YtlljdehjlbmgcaaDoor.CrcM

theorem xor16 (a : Nat) (h : a < 65536) : bits .xor .u16 (a : Int) 4129 = ((a ^^^ 4129 : Nat) : Int) := u16_xor_nat a 4129 h (by decide)
theorem pushed_calls (r b : Nat) (w : World) :
    Calls Tryd.prog 40 #[.int .u16 r, .int .u16 b] w fun e w' => e = .returned (.int .u16 (push r b)) ∧ w' = w := by
  by_cases h : r / 32768 = b
  · have H := hid (push_same h)
    have h' : (r : Int) / 32768 = b := by omega
    go_enter Tryd.func40, Tryd.ntmps40
    go_wp2
    go_ret
    exact ⟨ret_int (by rw [H.out, IntKind.wrap_u16]; omega), rfl⟩
  · have H := hid (push_other h)
    have h' : ¬ (r : Int) / 32768 = b := by omega
    go_enter Tryd.func40, Tryd.ntmps40
    go_wp2
    go_ret
    exact ⟨ret_int (by rw [H.out, IntKind.wrap_u16, show (r : Int) * 2 % 65536 = ((r * 2 % 65536 : Nat) : Int) by omega]; exact xor16 _ (Nat.mod_lt _ (by decide))), rfl⟩

theorem byte_bit (x : Int) (m : Nat) (hx : 0 ≤ x ∧ x ≤ 255) (hm : m < 8) : x * 2 ^ m % 256 / 128 = ((x.toNat / 2 ^ (7 - m) % 2 : Nat) : Int) := by
  rcases (show m = 0 ∨ m = 1 ∨ m = 2 ∨ m = 3 ∨ m = 4 ∨ m = 5 ∨ m = 6 ∨ m = 7 by omega) with rfl | rfl | rfl | rfl | rfl | rfl | rfl | rfl <;> simp <;> omega
theorem bitOf_calls (b off cap n : Nat) (x : Int) (i : Nat) (w : World) (hi : i < 8 * n) (hn : n ≤ 1048576) (hx : 0 ≤ x ∧ x ≤ 255) (hc : w.cell? ⟨b, off + i / 8, none⟩ = some (.int .u8 x)) :
    Calls Tryd.prog 41 #[.slice (some ⟨b, off, none⟩) n cap, .int .i64 i] w fun e w' => e = .returned (.int .u8 ((x.toNat / 2 ^ (7 - i % 8) % 2 : Nat) : Int)) ∧ w' = w := by
  have e1 : (i : Int) / 8 = ((i / 8 : Nat) : Int) := by omega
  have e2 : (i : Int) % 8 = ((i % 8 : Nat) : Int) := by omega
  have hq : i / 8 < n := by omega
  have hr : i % 8 < 8 := by omega
  have H := hid (byte_bit x (i % 8) hx hr)
  generalize i / 8 = q at *
  generalize i % 8 = m at *
  go_enter Tryd.func41, Tryd.ntmps41
  go_wp2
  go_ret
  exact ⟨ret_int H.out, rfl⟩

theorem cell8 {b off : Nat} {xs : List Int} {w : World} (hcell : ∀ i, i < xs.length → w.cell? ⟨b, off + i, none⟩ = some (.int .u8 (xs.getD i 0))) {k : Nat} (hk : k < 8 * xs.length) : w.cell? ⟨b, off + k / 8, none⟩ = some (.int .u8 (xs.getD (k / 8) 0)) := hcell (k / 8) (by omega)
set_option maxHeartbeats 1000000 in
theorem registerOf_some (b off cap : Nat) (xs : List Int) (w : World) (hx : BytesL xs) (hmax : xs.length ≤ 1048576)
    (hcell : ∀ i, i < xs.length → w.cell? ⟨b, off + i, none⟩ = some (.int .u8 (xs.getD i 0))) :
    Calls Tryd.prog 33 #[.slice (some ⟨b, off, none⟩) xs.length cap] w fun e w' => e = .returned (.int .u16 (crc xs)) ∧ w' = w := by
  have Hcell := hid hcell
  clear hcell
  go_enter Tryd.func33, Tryd.ntmps33
  go_wp2
  go_loop [3, 8] (fun r i => ∃ k : Nat, k ≤ 8 * xs.length ∧ i = .int .i64 k ∧ r = .int .u16 (reg xs k)) (fun _ i => 8 * xs.length - (intOf i).toNat)
  case atStart => exact ⟨0, Nat.zero_le _, rfl, rfl⟩
  case round =>
    obtain ⟨k, hk, rfl, rfl⟩ := hrel
    have hrl := reg_lt xs k
    by_cases hlt : k < 8 * xs.length
    · have HS : Hid (reg xs (k + 1) = push (reg xs k) (bitAt xs k)) := rfl
      have hbl := bitAt_lt xs k
      have HB := hid (bitOf_calls b off cap xs.length _ k w hlt hmax (getD_bd hx _) (cell8 Hcell.out hlt))
      have HBe : Hid ((xs.getD (k / 8) 0).toNat / 2 ^ (7 - k % 8) % 2 = bitAt xs k) := rfl
      rw [HBe.out] at HB
      generalize bitAt xs k = bt at *
      generalize reg xs k = r at *
      go_wp2_with (first | (go_at_call 41; refine HB.out.mono ?_; rintro e w' ⟨rfl, rfl⟩) | (go_at_call 40; refine (pushed_calls _ _ _).mono ?_; rintro e w' ⟨rfl, rfl⟩))
      go_round
      case rel => exact ⟨k + 1, by omega, by go_num, by rw [HS.out]⟩
      case measure => simp [intOf]; omega
    · have he : k = 8 * xs.length := by omega
      subst he
      have H : Hid (reg xs (8 * xs.length) = crc xs) := rfl
      go_wp2
      go_ret
      exact ⟨ret_int (by rw [H.out]), rfl⟩
theorem registerOf_none (a : Option Addr) (cap : Nat) (w : World) :
    Calls Tryd.prog 33 #[.slice a 0 cap] w fun e w' => e = .returned (.int .u16 65535) ∧ w' = w := by
  go_enter Tryd.func33, Tryd.ntmps33
  go_wp2
  go_loop [3, 8] (fun r i => r = .int .u16 65535 ∧ i = .int .i64 0) (fun _ _ => 0)
  case atStart => exact ⟨rfl, rfl⟩
  case round =>
    obtain ⟨rfl, rfl⟩ := hrel
    go_wp2
    go_ret
    exact ⟨rfl, rfl⟩
theorem registerOf_calls (v : Value) (xs : List Int) (w : World) (h : Sl .u8 w v xs) (hx : BytesL xs) (hmax : xs.length ≤ 1048576) :
    Calls Tryd.prog 33 #[v] w fun e w' => e = .returned (.int .u16 (crc xs)) ∧ w' = w := by
  obtain ⟨a, cap, rfl, hc⟩ := h
  by_cases hne : xs = []
  · subst hne
    exact registerOf_none a cap w
  · obtain ⟨b, off, rfl, hlt, hcell⟩ := hc hne
    exact registerOf_some b off cap xs w hx hmax hcell

def crC (xs : List Int) : Int := if 160 < xs.length then 2 else 0
def crV (xs : List Int) : Int := if 160 < xs.length then 0 else crc xs

theorem xor64 (a b : Nat) (ha : a < 65536) (hb : b < 65536) : bits .xor .i64 (a : Int) (b : Int) = ((a ^^^ b : Nat) : Int) := by
  have hx : a ^^^ b < 2 ^ 16 := Nat.xor_lt_two_pow ha hb
  have e : ∀ c : Nat, c < 65536 → (BitVec.ofInt 64 (c : Int)).toNat = c := fun c hc => by
    rw [BitVec.ofInt_natCast, BitVec.toNat_ofNat]; exact Nat.mod_eq_of_lt (by omega)
  show IntKind.i64.wrap ((BitVec.ofInt 64 (a : Int) ^^^ BitVec.ofInt 64 (b : Int)).toNat : Int) = _
  rw [BitVec.toNat_xor, e a ha, e b hb, IntKind.wrap_i64]
  omega
theorem and64 (a : Nat) (ha : a < 65536) : bits .and .i64 (a : Int) 1 = ((a % 2 : Nat) : Int) := by
  have e : ∀ c : Nat, c < 65536 → (BitVec.ofInt 64 (c : Int)).toNat = c := fun c hc => by
    rw [BitVec.ofInt_natCast, BitVec.toNat_ofNat]; exact Nat.mod_eq_of_lt (by omega)
  show IntKind.i64.wrap ((BitVec.ofInt 64 (a : Int) &&& BitVec.ofInt 64 ((1 : Nat) : Int)).toNat : Int) = _
  rw [BitVec.toNat_and, e a ha, e 1 (by omega), Nat.and_one_is_mod, IntKind.wrap_i64]
  omega
theorem byte_and (xs : List Int) (q k : Nat) (hx : BytesL xs) (hk : k < 8) : bits .and .i64 (xs.getD q 0 / 2 ^ (7 - k)) 1 = ((bitAt xs (8 * q + k) : Nat) : Int) := by
  obtain ⟨h1, h2⟩ := getD_bd hx q
  unfold bitAt
  rw [show (8 * q + k) / 8 = q by omega, show (8 * q + k) % 8 = k by omega]
  generalize xs.getD q 0 = x at *
  obtain ⟨X, rfl⟩ := Int.eq_ofNat_of_zero_le h1
  have e : (X : Int) / 2 ^ (7 - k) = ((X / 2 ^ (7 - k) : Nat) : Int) := by simp
  have hl : X / 2 ^ (7 - k) ≤ X := Nat.div_le_self _ _
  rw [e, and64 _ (by omega)]
  rfl
theorem half_and (r : Nat) (hr : r < 65536) : bits .and .i64 ((r : Int) / 32768) 1 = ((r / 32768 : Nat) : Int) := by
  rw [show (r : Int) / 32768 = ((r / 32768 : Nat) : Int) by omega, and64 _ (by omega)]
  omega
set_option maxHeartbeats 1000000 in
theorem l2Crc_some (b off cap : Nat) (xs : List Int) (w : World) (hx : BytesL xs) (hmax : xs.length ≤ 1048576)
    (hcell : ∀ i, i < xs.length → w.cell? ⟨b, off + i, none⟩ = some (.int .u8 (xs.getD i 0))) :
    Calls Tryd.prog 42 #[.slice (some ⟨b, off, none⟩) xs.length cap] w fun e w' => e = .returned (.int .i64 (crc xs)) ∧ w' = w := by
  have Hcell := hid hcell
  clear hcell
  go_enter Tryd.func42, Tryd.ntmps42
  go_wp2
  go_loop [3, 4] (fun r i => ∃ k : Nat, k ≤ xs.length ∧ i = .int .i64 k ∧ r = .int .i64 (reg xs (8 * k))) (fun _ i => xs.length - (intOf i).toNat)
  case atStart => exact ⟨0, Nat.zero_le _, rfl, rfl⟩
  case round =>
    obtain ⟨q, hq, rfl, rfl⟩ := hrel
    by_cases hlt : q < xs.length
    · have hc := Hcell.out q hlt
      have hbd := getD_bd hx q
      go_wp2
      go_loop [3, 5] (fun r i => ∃ k : Nat, k ≤ 8 ∧ i = .int .i64 (7 - (k : Int)) ∧ r = .int .i64 (reg xs (8 * q + k))) (fun _ i => (intOf i + 1).toNat)
      case atStart => exact ⟨0, Nat.zero_le _, rfl, rfl⟩
      case round =>
        obtain ⟨k, hk, rfl, rfl⟩ := hrel
        have hrl := reg_lt xs (8 * q + k)
        by_cases hk8 : k < 8
        · have HS : Hid (reg xs (8 * q + (k + 1)) = push (reg xs (8 * q + k)) (bitAt xs (8 * q + k))) := rfl
          have hA := byte_and xs q k hx hk8
          have hR := half_and _ hrl
          generalize reg xs (8 * q + k) = r at *
          generalize xs.getD q 0 = x at *
          generalize bitAt xs (8 * q + k) = bt at *
          by_cases hs : r / 32768 = bt
          · have HP := hid (push_same hs)
            have hne : (((bt : Nat) : Int) != ((r / 32768 : Nat) : Int)) = false := by simp; omega
            clear hs
            go_wp2
            go_round
            case rel => exact ⟨k + 1, by omega, by go_num, by rw [HS.out, HP.out]; go_num⟩
            case measure => simp [intOf]; omega
          · have HP := hid (push_other hs)
            have hne : (((bt : Nat) : Int) != ((r / 32768 : Nat) : Int)) = true := by simp; omega
            clear hs
            go_wp2
            go_round
            case rel => exact ⟨k + 1, by omega, by go_num, by rw [HS.out, HP.out, show (r : Int) * 2 % 65536 = ((r * 2 % 65536 : Nat) : Int) by omega]; exact congrArg (Value.int .i64) (xor64 _ 4129 (Nat.mod_lt _ (by decide)) (by decide))⟩
            case measure => simp [intOf]; omega
        · have he : k = 8 := by omega
          subst he
          go_wp2
          go_round
          case rel => exact ⟨q + 1, by omega, by go_num, by rw [show 8 * (q + 1) = 8 * q + 8 by omega]⟩
          case measure => simp [intOf]; omega
    · have he : q = xs.length := by omega
      subst he
      have H : Hid (reg xs (8 * xs.length) = crc xs) := rfl
      go_wp2
      go_ret
      exact ⟨ret_int (by rw [H.out]), rfl⟩
theorem l2Crc_none (a : Option Addr) (cap : Nat) (w : World) :
    Calls Tryd.prog 42 #[.slice a 0 cap] w fun e w' => e = .returned (.int .i64 65535) ∧ w' = w := by
  go_enter Tryd.func42, Tryd.ntmps42
  go_wp2
  go_loop [3, 4] (fun r i => r = .int .i64 65535 ∧ i = .int .i64 0) (fun _ _ => 0)
  case atStart => exact ⟨rfl, rfl⟩
  case round =>
    obtain ⟨rfl, rfl⟩ := hrel
    go_wp2
    go_ret
    exact ⟨rfl, rfl⟩
theorem l2Crc_calls (v : Value) (xs : List Int) (w : World) (h : Sl .u8 w v xs) (hx : BytesL xs) (hmax : xs.length ≤ 1048576) :
    Calls Tryd.prog 42 #[v] w fun e w' => e = .returned (.int .i64 (crc xs)) ∧ w' = w := by
  obtain ⟨a, cap, rfl, hc⟩ := h
  by_cases hne : xs = []
  · subst hne
    exact l2Crc_none a cap w
  · obtain ⟨b, off, rfl, hlt, hcell⟩ := hc hne
    exact l2Crc_some b off cap xs w hx hmax hcell

end Go.Proofs.YtlljdehjlbmgcaaDoor.Crc
