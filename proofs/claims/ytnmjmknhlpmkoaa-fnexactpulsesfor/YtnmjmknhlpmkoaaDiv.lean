/- RoundDiv, CeilDiv and TenOf, the program's and the model's: both return the same code and the same value; nothing that was there turns. No conditions. -/
import Derived.Test.YtnmjmknhlpmkoaaNum
namespace Go.Proofs.Ytnmjmknhlpmkoaa.Div
open Go.ChangeShapes Go.WideShapes Go.ChangeAt Go.RowKit Go.Proofs.Ytnmjmknhlpmkoaa.Num

def topB (v : Int) : Bool := inB (-1099511627776) 1099511627776 v
def underB (v : Int) : Bool := inB 1 33554432 v
def rdOk (a b : Int) : Bool := topB a && underB b
def cdOk (a b : Int) : Bool := inB 0 1099511627776 a && underB b
def rdC (a b : Int) : Int := if rdOk a b = true then 0 else 3
def rdV (a b : Int) : Int := if rdOk a b = true then nearV a b else 0
def cdC (a b : Int) : Int := if cdOk a b = true then 0 else 3
def cdV (a b : Int) : Int := if cdOk a b = true then ceilV a b else 0
def teC (v : Int) : Int := if topB v = true then 0 else 3
def teV (v : Int) : Int := if topB v = true then tenV v else 0

theorem ret_two {c v c' v' : Int} (h1 : c = c') (h2 : v = v') : Ending.returned (.agg #[.int .i64 c, .int .i64 v]) = .returned (.agg #[.int .i64 c', .int .i64 v']) := by rw [h1, h2]

theorem rd_yes {a b : Int} (h1 : topB a = true) (h2 : underB b = true) : 0 = rdC a b ∧ nearV a b = rdV a b := by
  unfold rdC rdV rdOk; simp [h1, h2]
theorem rd_no1 {a b : Int} (h1 : topB a = false) : 3 = rdC a b ∧ 0 = rdV a b := by
  unfold rdC rdV rdOk; simp [h1]
theorem rd_no2 {a b : Int} (h2 : underB b = false) : 3 = rdC a b ∧ 0 = rdV a b := by
  unfold rdC rdV rdOk; simp [h2]
theorem cd_yes {a b : Int} (h1 : inB 0 1099511627776 a = true) (h2 : underB b = true) : 0 = cdC a b ∧ ceilV a b = cdV a b := by
  unfold cdC cdV cdOk; simp [h1, h2]
theorem cd_no1 {a b : Int} (h1 : inB 0 1099511627776 a = false) : 3 = cdC a b ∧ 0 = cdV a b := by
  unfold cdC cdV cdOk; simp [h1]
theorem cd_no2 {a b : Int} (h2 : underB b = false) : 3 = cdC a b ∧ 0 = cdV a b := by
  unfold cdC cdV cdOk; simp [h2]
theorem te_yes {v : Int} (h : topB v = true) : 0 = teC v ∧ tenV v = teV v := by
  unfold teC teV; simp [h]
theorem te_no {v : Int} (h : topB v = false) : 3 = teC v ∧ 0 = teV v := by
  unfold teC teV; simp [h]




theorem l1In_calls (v lo hi : Int) (w : World) :
    Calls Try.prog 25 #[.int .i64 v, .int .i64 lo, .int .i64 hi] w fun e w' => e = .returned (.bool (inB lo hi v)) ∧ w' = w := by
  by_cases h1 : lo ≤ v
  · by_cases h2 : v ≤ hi
    · have H : Hid (true = inB lo hi v) := (inB_yes h1 h2).symm
      go_enter Try.func25, Try.ntmps25
      go_wp2
      go_ret
      exact ⟨ret_bool H.out, rfl⟩
    · have H : Hid (false = inB lo hi v) := (inB_no (by omega)).symm
      go_enter Try.func25, Try.ntmps25
      go_wp2
      go_ret
      exact ⟨ret_bool H.out, rfl⟩
  · have H : Hid (false = inB lo hi v) := (inB_no (by omega)).symm
    go_enter Try.func25, Try.ntmps25
    go_wp2
    go_ret
    exact ⟨ret_bool H.out, rfl⟩




theorem near_bd (a b : Int) (hb : 0 < b) (hb2 : b ≤ 33554432) (h1 : 0 ≤ a) (h2 : a ≤ 1099511627776) : 0 ≤ nearV a b ∧ nearV a b ≤ 2199056809984 := by
  unfold nearV; rw [if_neg (by omega)]
  have hd := div_le (2 * a + b) (2 * b) (by omega) (by omega)
  omega

theorem near_flip (a b : Int) (h : a < 0) : -nearV (-a) b = nearV a b := by
  unfold nearV; rw [if_neg (by omega), if_pos h]


theorem floor_flip (a b : Int) (hb : 0 < b) : -ceilV (-a) b = a / b := by
  rw [← ceil_neg (-a) b hb, Int.neg_neg, Int.neg_neg]






theorem eqIntResult_calls (c v : Int) (w : World) :
    Calls Try.prog 16 #[.agg #[.int .i64 c, .int .i64 v], .agg #[.int .i64 c, .int .i64 v]] w fun e w' => e = .returned (.bool true) ∧ Below w.heap.size w w' := by
  go_enter Try.func16, Try.ntmps16
  go_wp2
  go_ret
  exact ⟨rfl, ((Below.refl _ _).alloc (Nat.le_refl _) _).alloc (by simp) _⟩

end Go.Proofs.Ytnmjmknhlpmkoaa.Div
