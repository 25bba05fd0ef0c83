/- The ways of rounding: what each method of impl's named number, and each helper of the model's chapter 1, returns; they turn nothing in the world. Conditions: the numbers lie far below the greatest int64, what is divided by is above 0. -/
import Derived.Test.YtodfkicmmcfkaaaRows
import Derived.WalkKit
import Derived.ProofKit
import Derived.OpenShut
import Derived.WalkLawsBesides
import Derived.Outline
import Derived.Below
namespace Go.Proofs.Ytodfkicmmcfkaaa.Num
open Go.ChangeShapes Go.WideShapes Go.ChangeAt Go.RowKit

theorem ret_int {k : IntKind} {a b : Int} (h : a = b) : Ending.returned (.int k a) = .returned (.int k b) := by rw [h]
theorem ret_bool {a b : Bool} (h : a = b) : Ending.returned (.bool a) = .returned (.bool b) := by rw [h]

theorem bcell {W w1 : World} (hb : Below W.heap.size W w1) : (∀ b o, b < W.heap.size → w1.cell? ⟨b, o, none⟩ = W.cell? ⟨b, o, none⟩) ∧ (∀ b o, b < W.heap.size → w1.frozen? ⟨b, o, none⟩ = W.frozen? ⟨b, o, none⟩) :=
  ⟨fun b o h => hb.cell (p := ⟨b, o, none⟩) h, fun b o h => hb.frozen (p := ⟨b, o, none⟩) h⟩

theorem bthen {w w1 w2 : World} (h : Below w.heap.size w w1) (k : Below w1.heap.size w1 w2) : Below w.heap.size w w2 := h.trans (k.mono h.size)
theorem bmore {w w1 : World} (h : Below w.heap.size w w1) (o : Obj) : Below w.heap.size w (w1.alloc o) := h.alloc h.size o

theorem wrap_of {x : Int} (h1 : -9223372036854775808 ≤ x) (h2 : x ≤ 9223372036854775807) : wrap64 x = x := by
  unfold wrap64; omega

theorem wrapk_of {x : Int} (h1 : -9223372036854775808 ≤ x) (h2 : x ≤ 9223372036854775807) : IntKind.i64.wrap x = x := by
  rw [IntKind.wrap_i64]; omega

theorem floor_lo (v u : Int) (hu : 0 < u) (h : v.tmod u < 0) : v.tdiv u - 1 = v / u := by
  have e : v.tdiv u * u + v.tmod u = v := Int.tdiv_mul_add_tmod v u
  have b := Int.lt_tmod_of_pos v hu
  refine (((Int.ediv_emod_unique (a := v) (b := u) (r := v.tmod u + u) (q := v.tdiv u - 1) hu).2 ⟨?_, by omega, by omega⟩).1).symm
  rw [Int.mul_sub, Int.mul_comm]; omega
theorem floor_hi (v u : Int) (hu : 0 < u) (h : 0 ≤ v.tmod u) : v.tdiv u = v / u := by
  have e : v.tdiv u * u + v.tmod u = v := Int.tdiv_mul_add_tmod v u
  have b := Int.tmod_lt_of_pos v hu
  refine (((Int.ediv_emod_unique (a := v) (b := u) (r := v.tmod u) (q := v.tdiv u) hu).2 ⟨?_, by omega, by omega⟩).1).symm
  rw [Int.mul_comm]; omega
theorem tdiv_small (v u : Int) (hu : 0 < u) (h1 : -4611686018427387904 ≤ v) (h2 : v ≤ 4611686018427387904) : -4611686018427387904 ≤ v.tdiv u ∧ v.tdiv u ≤ 4611686018427387904 := by
  have e : v.tdiv u * u + v.tmod u = v := Int.tdiv_mul_add_tmod v u
  rcases Int.le_total 0 v with hv | hv
  · have a := Int.tdiv_nonneg hv (Int.le_of_lt hu)
    have b := Int.tdiv_le_self u hv
    omega
  · have a := Int.tdiv_nonneg (a := -v) (b := u) (by omega) (Int.le_of_lt hu)
    have b := Int.tdiv_le_self (a := -v) u (by omega)
    rw [Int.neg_tdiv] at a b
    omega

/-- v lies within both bounds. -/
def inB (lo hi v : Int) : Bool := decide (lo ≤ v ∧ v ≤ hi)
theorem inB_yes {lo hi v : Int} (h1 : lo ≤ v) (h2 : v ≤ hi) : inB lo hi v = true := decide_eq_true ⟨h1, h2⟩
theorem inB_no {lo hi v : Int} (h : v < lo ∨ hi < v) : inB lo hi v = false := decide_eq_false (by omega)
theorem of_inB {lo hi v : Int} (h : inB lo hi v = true) : lo ≤ v ∧ v ≤ hi := of_decide_eq_true h
theorem of_notB {lo hi v : Int} (h : inB lo hi v = false) : v < lo ∨ hi < v := by have := of_decide_eq_false h; omega

theorem isWithin_calls (v lo hi : Int) (w : World) :
    Calls Try.prog 47 #[.int .i64 v, .int .i64 lo, .int .i64 hi] w fun e w' => e = .returned (.bool (inB lo hi v)) ∧ w' = w := by
  by_cases h1 : lo ≤ v
  · by_cases h2 : v ≤ hi
    · have H : Hid (true = inB lo hi v) := (inB_yes h1 h2).symm
      go_enter Try.func47, Try.ntmps47
      go_wp2
      go_ret
      exact ⟨ret_bool H.out, rfl⟩
    · have H : Hid (false = inB lo hi v) := (inB_no (by omega)).symm
      go_enter Try.func47, Try.ntmps47
      go_wp2
      go_ret
      exact ⟨ret_bool H.out, rfl⟩
  · have H : Hid (false = inB lo hi v) := (inB_no (by omega)).symm
    go_enter Try.func47, Try.ntmps47
    go_wp2
    go_ret
    exact ⟨ret_bool H.out, rfl⟩


def absV (v : Int) : Int := if v < 0 then -v else v
theorem absV_bd (v : Int) : 0 ≤ absV v ∧ (absV v = v ∨ absV v = -v) := by unfold absV; split <;> omega

theorem withoutSign_calls (v : Int) (w : World) (h1 : -4611686018427387904 ≤ v) (h2 : v ≤ 4611686018427387904) :
    Calls Try.prog 48 #[.int .i64 v] w fun e w' => e = .returned (.int .i64 (absV v)) ∧ w' = w := by
  by_cases hm : v < 0
  · have hx : absV v = -v := if_pos hm
    have H : Hid (absV v = -v) := hx
    clear hx
    go_enter Try.func48, Try.ntmps48
    go_wp2
    go_ret
    exact ⟨ret_int H.out.symm, rfl⟩
  · have hx : absV v = v := if_neg hm
    have H : Hid (absV v = v) := hx
    clear hx
    go_enter Try.func48, Try.ntmps48
    go_wp2
    go_ret
    exact ⟨ret_int H.out.symm, rfl⟩

/-- The nearest whole number, halves away from 0. -/
def nearV (a b : Int) : Int := if a < 0 then -((2 * -a + b) / (2 * b)) else (2 * a + b) / (2 * b)
/-- The least one that is not below. -/
def ceilV (a b : Int) : Int := (a + b - 1) / b
def tenV (v : Int) : Int := (v + 512) / 1024

theorem ceil_neg (a b : Int) (hb : 0 < b) : -(-a / b) = ceilV a b := by
  unfold ceilV
  have h1 := Int.emod_nonneg (-a) (b := b) (by omega)
  have h2 := Int.emod_lt_of_pos (-a) hb
  have h3 := Int.mul_ediv_add_emod (-a) b
  refine (((Int.ediv_emod_unique (a := a + b - 1) (b := b) (r := b - 1 - (-a % b)) (q := -(-a / b)) hb).2 ⟨?_, by omega, by omega⟩).1).symm
  rw [Int.mul_neg]; omega

theorem div_le (a b : Int) (ha : 0 ≤ a) (hb : 0 < b) : 0 ≤ a / b ∧ a / b ≤ a :=
  ⟨Int.ediv_nonneg ha (by omega), Int.ediv_le_self b ha⟩

theorem ceilV_bd (a b : Int) (ha : 0 ≤ a) (hb : 0 < b) : 0 ≤ ceilV a b ∧ ceilV a b ≤ a + b - 1 := by
  unfold ceilV; exact div_le _ _ (by omega) hb




end Go.Proofs.Ytodfkicmmcfkaaa.Num
