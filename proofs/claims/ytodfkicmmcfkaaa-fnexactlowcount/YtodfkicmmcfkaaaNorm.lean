/- NormOf, the program's and the model's: both return the same code and the same value at any list of int64. Condition: none but that the slice holds its numbers. -/
import Derived.Test.YtodfkicmmcfkaaaSli
import Derived.Test.YtodfkicmmcfkaaaDiv
namespace Go.Proofs.Ytodfkicmmcfkaaa.Norm
open Go.ChangeShapes Go.WideShapes Go.ChangeAt Go.RowKit Go.Proofs.Ytodfkicmmcfkaaa.Num Go.Proofs.Ytodfkicmmcfkaaa.Sli Go.Proofs.Ytodfkicmmcfkaaa.Div

def sumAbs (xs : List Int) : Int := (xs.map absV).sum
def nmC (xs : List Int) : Int := if 64 < xs.length then 2 else if xs.all topB = true then 0 else 3
def nmV (xs : List Int) : Int := if 64 < xs.length then 0 else if xs.all topB = true then sumAbs xs else 0

theorem nm_many {xs : List Int} (h : 64 < xs.length) : 2 = nmC xs ∧ 0 = nmV xs := by
  unfold nmC nmV; rw [if_pos h, if_pos h]; exact ⟨rfl, rfl⟩
theorem nm_yes {xs : List Int} (h : ¬ 64 < xs.length) (ha : xs.all topB = true) : 0 = nmC xs ∧ sumAbs xs = nmV xs := by
  unfold nmC nmV; rw [if_neg h, if_neg h, if_pos ha, if_pos ha]; exact ⟨rfl, rfl⟩
theorem nm_no {xs : List Int} (h : ¬ 64 < xs.length) (k : Nat) (hk : k < xs.length) (hx : topB (xs.getD k 0) = false) : 3 = nmC xs ∧ 0 = nmV xs := by
  have ha : ¬ xs.all topB = true := by
    intro ha
    have := List.all_eq_true.1 ha xs[k] (List.getElem_mem hk)
    rw [List.getD_eq_getElem?_getD, List.getElem?_eq_getElem hk, Option.getD_some] at hx
    rw [this] at hx; cases hx
  unfold nmC nmV; rw [if_neg h, if_neg h, if_neg ha, if_neg ha]; exact ⟨rfl, rfl⟩
theorem take_snoc (xs : List Int) (k : Nat) (h : k < xs.length) : xs.take (k + 1) = xs.take k ++ [xs.getD k 0] := by
  rw [List.take_succ_eq_append_getElem h, List.getD_eq_getElem?_getD, List.getElem?_eq_getElem h, Option.getD_some]
theorem sum_snoc (xs : List Int) (k : Nat) (h : k < xs.length) : sumAbs (xs.take (k + 1)) = sumAbs (xs.take k) + absV (xs.getD k 0) := by
  unfold sumAbs; rw [take_snoc xs k h]; simp
theorem all_snoc (xs : List Int) (k : Nat) (h : k < xs.length) (ha : (xs.take k).all topB = true) (hx : topB (xs.getD k 0) = true) : (xs.take (k + 1)).all topB = true := by
  rw [take_snoc xs k h, List.all_append, ha]; simp only [List.all_cons, List.all_nil, hx]; rfl
theorem sum_bd (xs : List Int) (ha : xs.all topB = true) : 0 ≤ sumAbs xs ∧ sumAbs xs ≤ xs.length * 1099511627776 := by
  induction xs with
  | nil => simp [sumAbs]
  | cons x r ih =>
    simp only [List.all_cons, Bool.and_eq_true] at ha
    have := ih ha.2
    have hb := absV_bd x
    have ht := of_inB ha.1
    unfold sumAbs at this ⊢
    simp only [List.map_cons, List.sum_cons, List.length_cons]
    omega

set_option maxHeartbeats 1000000 in
theorem implNormOf_some (b off cap : Nat) (xs : List Int) (w : World) (hb : b < w.heap.size) (hmax : xs.length ≤ 64)
    (hcell : ∀ i, i < xs.length → w.cell? ⟨b, off + i, none⟩ = some (.int .i64 (xs.getD i 0))) :
    Calls Try.prog 17 #[.slice (some ⟨b, off, none⟩) xs.length cap] w fun e w' => e = .returned (.agg #[.int .i64 (nmC xs), .int .i64 (nmV xs)]) ∧ Below w.heap.size w w' := by
  have hb0 : b ≠ w.heap.size := by omega
  go_enter Try.func17, Try.ntmps17
  go_wp2
  go_loop [3, 12] (fun s i => ∃ k : Nat, k ≤ xs.length ∧ i = .int .i64 k ∧ s = .int .i64 (sumAbs (xs.take k)) ∧ Hid ((xs.take k).all topB = true)) (fun _ i => xs.length - (intOf i).toNat)
  case atStart => exact ⟨0, Nat.zero_le _, rfl, rfl, rfl⟩
  case round =>
    obtain ⟨k, hk, rfl, rfl, ha⟩ := hrel
    have hsb := sum_bd _ ha.out
    have hl : (xs.take k).length ≤ 64 := by rw [List.length_take]; omega
    by_cases hlt : k < xs.length
    · have hc := hcell k hlt
      have HS : Hid (sumAbs (xs.take (k + 1)) = sumAbs (xs.take k) + absV (xs.getD k 0)) := sum_snoc xs k hlt
      have HA : Hid (topB (xs.getD k 0) = true → (xs.take (k + 1)).all topB = true) := fun hx => all_snoc xs k hlt ha.out hx
      have HN : Hid (topB (xs.getD k 0) = false → 3 = nmC xs ∧ 0 = nmV xs) := fun hx => nm_no (by omega) k hlt hx
      clear hcell
      generalize xs.getD k 0 = x at *
      cases hx : topB x
      · have H : Hid (3 = nmC xs ∧ 0 = nmV xs) := HN.out hx
        unfold topB at hx
        clear HN HA HS
        go_wp2_with (go_at_call 47; refine (isWithin_calls _ _ _ _).mono ?_; rintro e w' ⟨rfl, rfl⟩)
        exact bodyPost_ret (v := .agg #[.int .i64 3, .int .i64 0]) (by simp [results, Try.results17, go_sem]) rfl ⟨ret_two H.out.1 H.out.2, (Below.refl _ _).alloc (Nat.le_refl _) _⟩
      · have hA : Hid ((xs.take (k + 1)).all topB = true) := HA.out hx
        have hbd := of_inB hx
        have hab := absV_bd x
        unfold topB at hx
        clear HN HA
        go_wp2_with (first | (go_at_call 47; refine (isWithin_calls _ _ _ _).mono ?_; rintro e w' ⟨rfl, rfl⟩) | (go_at_call 48; refine (withoutSign_calls _ _ (by omega) (by omega)).mono ?_; rintro e w' ⟨rfl, rfl⟩))
        go_round
        case rel => exact ⟨k + 1, by omega, by go_num, by rw [HS.out], hA⟩
        case measure => simp [intOf]; omega
    · have he : k = xs.length := by omega
      subst he
      rw [List.take_length] at *
      have H : Hid (0 = nmC xs ∧ sumAbs xs = nmV xs) := nm_yes (by omega) ha.out
      go_wp2
      exact bodyPost_ret (v := .agg #[.int .i64 0, .int .i64 (sumAbs xs)]) (by simp [results, Try.results17, go_sem]) rfl ⟨ret_two H.out.1 H.out.2, (Below.refl _ _).alloc (Nat.le_refl _) _⟩

theorem implNormOf_none (a : Option Addr) (cap : Nat) (w : World) :
    Calls Try.prog 17 #[.slice a 0 cap] w fun e w' => e = .returned (.agg #[.int .i64 0, .int .i64 0]) ∧ Below w.heap.size w w' := by
  go_enter Try.func17, Try.ntmps17
  go_wp2
  go_loop [3, 12] (fun s i => s = .int .i64 0 ∧ i = .int .i64 0) (fun _ _ => 0)
  case atStart => exact ⟨rfl, rfl⟩
  case round =>
    obtain ⟨rfl, rfl⟩ := hrel
    go_wp2
    exact bodyPost_ret (v := .agg #[.int .i64 0, .int .i64 0]) (by simp [results, Try.results17, go_sem]) rfl ⟨rfl, (Below.refl _ _).alloc (Nat.le_refl _) _⟩

theorem implNormOf_many (a : Option Addr) (n cap : Nat) (w : World) (h : 64 < n) :
    Calls Try.prog 17 #[.slice a n cap] w fun e w' => e = .returned (.agg #[.int .i64 2, .int .i64 0]) ∧ Below w.heap.size w w' := by
  have h' : (64 : Int) < n := by omega
  go_enter Try.func17, Try.ntmps17
  go_wp2
  exact bodyPost_ret (v := .agg #[.int .i64 2, .int .i64 0]) (by simp [results, Try.results17, go_sem]) rfl ⟨rfl, (Below.refl _ _).alloc (Nat.le_refl _) _⟩

theorem implNormOf_calls (v : Value) (xs : List Int) (w : World) (h : Sl .i64 w v xs) :
    Calls Try.prog 17 #[v] w fun e w' => e = .returned (.agg #[.int .i64 (nmC xs), .int .i64 (nmV xs)]) ∧ Below w.heap.size w w' := by
  obtain ⟨a, cap, rfl, hc⟩ := h
  by_cases hm : 64 < xs.length
  · have H := nm_many hm
    rw [← H.1, ← H.2]
    exact implNormOf_many a xs.length cap w hm
  · by_cases hne : xs = []
    · subst hne
      exact implNormOf_none a cap w
    · obtain ⟨b, off, rfl, hlt, hcell⟩ := hc hne
      exact implNormOf_some b off cap xs w hlt (by omega) hcell

theorem l1Abs_calls (v : Int) (w : World) (h1 : -4611686018427387904 ≤ v) (h2 : v ≤ 4611686018427387904) :
    Calls Try.prog 73 #[.int .i64 v] w fun e w' => e = .returned (.int .i64 (absV v)) ∧ w' = w := by
  by_cases hm : v < 0
  · have H : Hid (absV v = -v) := if_pos hm
    go_enter Try.func73, Try.ntmps73
    go_wp2
    go_ret
    exact ⟨ret_int H.out.symm, rfl⟩
  · have H : Hid (absV v = v) := if_neg hm
    go_enter Try.func73, Try.ntmps73
    go_wp2
    go_ret
    exact ⟨ret_int H.out.symm, rfl⟩

theorem all_get {xs : List Int} (ha : xs.all topB = true) (k : Nat) (h : k < xs.length) : topB (xs.getD k 0) = true := by
  rw [List.getD_eq_getElem?_getD, List.getElem?_eq_getElem h, Option.getD_some]
  exact List.all_eq_true.1 ha xs[k] (List.getElem_mem h)
theorem all_take {xs : List Int} (ha : xs.all topB = true) (k : Nat) : (xs.take k).all topB = true := by
  rw [List.all_eq_true] at ha ⊢
  intro x hx
  exact ha x (List.mem_of_mem_take hx)

theorem l1Norm_some (b off cap : Nat) (xs : List Int) (w : World) (hmax : xs.length ≤ 64) (ha : xs.all topB = true)
    (hcell : ∀ i, i < xs.length → w.cell? ⟨b, off + i, none⟩ = some (.int .i64 (xs.getD i 0))) :
    Calls Try.prog 62 #[.slice (some ⟨b, off, none⟩) xs.length cap] w fun e w' => e = .returned (.int .i64 (sumAbs xs)) ∧ w' = w := by
  have HA := all_get ha
  have HB := all_take ha
  clear ha
  go_enter Try.func62, Try.ntmps62
  go_wp2
  go_loop [3, 4] (fun s i => ∃ k : Nat, k ≤ xs.length ∧ i = .int .i64 k ∧ s = .int .i64 (sumAbs (xs.take k))) (fun _ i => xs.length - (intOf i).toNat)
  case atStart => exact ⟨0, Nat.zero_le _, rfl, rfl⟩
  case round =>
    obtain ⟨k, hk, rfl, rfl⟩ := hrel
    have hsb := sum_bd _ (HB k)
    have hl : (xs.take k).length ≤ 64 := by rw [List.length_take]; omega
    by_cases hlt : k < xs.length
    · have hc := hcell k hlt
      have HS : Hid (sumAbs (xs.take (k + 1)) = sumAbs (xs.take k) + absV (xs.getD k 0)) := sum_snoc xs k hlt
      have hbd := of_inB (HA k hlt)
      clear hcell HA HB
      generalize xs.getD k 0 = x at *
      have hab := absV_bd x
      go_wp2_with (go_at_call 73; refine (l1Abs_calls _ _ (by omega) (by omega)).mono ?_; rintro e w' ⟨rfl, rfl⟩)
      go_round
      case rel => exact ⟨k + 1, by omega, by go_num, by rw [HS.out]⟩
      case measure => simp [intOf]; omega
    · have he : k = xs.length := by omega
      subst he
      clear HA HB hcell
      rw [List.take_length] at *
      go_wp2
      go_ret
      exact ⟨rfl, rfl⟩

theorem l1Norm_none (a : Option Addr) (cap : Nat) (w : World) :
    Calls Try.prog 62 #[.slice a 0 cap] w fun e w' => e = .returned (.int .i64 0) ∧ w' = w := by
  go_enter Try.func62, Try.ntmps62
  go_wp2
  go_loop [3, 4] (fun s i => s = .int .i64 0 ∧ i = .int .i64 0) (fun _ _ => 0)
  case atStart => exact ⟨rfl, rfl⟩
  case round =>
    obtain ⟨rfl, rfl⟩ := hrel
    go_wp2
    go_ret
    exact ⟨rfl, rfl⟩

end Go.Proofs.Ytodfkicmmcfkaaa.Norm
