/- RoundDiv, CeilDiv and TenOf, the program's and the model's: both return the same code and the same value; nothing that was there turns. No conditions. -/
import Derived.Test.YtodfkicmmcfkaaaNum
namespace Go.Proofs.Ytodfkicmmcfkaaa.Div
open Go.ChangeShapes Go.WideShapes Go.ChangeAt Go.RowKit Go.Proofs.Ytodfkicmmcfkaaa.Num

def topB (v : Int) : Bool := inB (-1099511627776) 1099511627776 v
def underB (v : Int) : Bool := inB 1 33554432 v
def rdOk (a b : Int) : Bool := topB a && underB b
def cdOk (a b : Int) : Bool := inB 0 1099511627776 a && underB b
def rdC (a b : Int) : Int := if rdOk a b = true then 0 else 3
def rdV (a b : Int) : Int := if rdOk a b = true then nearV a b else 0
def cdC (a b : Int) : Int := if cdOk a b = true then 0 else 3
def cdV (a b : Int) : Int := if cdOk a b = true then ceilV a b else 0
def teC (v : Int) : Int := if topB v = true then 0 else 3
def teV (v : Int) : Int := if topB v = true then tenV v else 0

theorem ret_two {c v c' v' : Int} (h1 : c = c') (h2 : v = v') : Ending.returned (.agg #[.int .i64 c, .int .i64 v]) = .returned (.agg #[.int .i64 c', .int .i64 v']) := by rw [h1, h2]

theorem rd_yes {a b : Int} (h1 : topB a = true) (h2 : underB b = true) : 0 = rdC a b ∧ nearV a b = rdV a b := by
  unfold rdC rdV rdOk; simp [h1, h2]
theorem rd_no1 {a b : Int} (h1 : topB a = false) : 3 = rdC a b ∧ 0 = rdV a b := by
  unfold rdC rdV rdOk; simp [h1]
theorem rd_no2 {a b : Int} (h2 : underB b = false) : 3 = rdC a b ∧ 0 = rdV a b := by
  unfold rdC rdV rdOk; simp [h2]
theorem cd_yes {a b : Int} (h1 : inB 0 1099511627776 a = true) (h2 : underB b = true) : 0 = cdC a b ∧ ceilV a b = cdV a b := by
  unfold cdC cdV cdOk; simp [h1, h2]
theorem cd_no1 {a b : Int} (h1 : inB 0 1099511627776 a = false) : 3 = cdC a b ∧ 0 = cdV a b := by
  unfold cdC cdV cdOk; simp [h1]
theorem cd_no2 {a b : Int} (h2 : underB b = false) : 3 = cdC a b ∧ 0 = cdV a b := by
  unfold cdC cdV cdOk; simp [h2]
theorem te_yes {v : Int} (h : topB v = true) : 0 = teC v ∧ tenV v = teV v := by
  unfold teC teV; simp [h]
theorem te_no {v : Int} (h : topB v = false) : 3 = teC v ∧ 0 = teV v := by
  unfold teC teV; simp [h]




theorem l1In_calls (v lo hi : Int) (w : World) :
    Calls Try.prog 77 #[.int .i64 v, .int .i64 lo, .int .i64 hi] w fun e w' => e = .returned (.bool (inB lo hi v)) ∧ w' = w := by
  by_cases h1 : lo ≤ v
  · by_cases h2 : v ≤ hi
    · have H : Hid (true = inB lo hi v) := (inB_yes h1 h2).symm
      go_enter Try.func77, Try.ntmps77
      go_wp2
      go_ret
      exact ⟨ret_bool H.out, rfl⟩
    · have H : Hid (false = inB lo hi v) := (inB_no (by omega)).symm
      go_enter Try.func77, Try.ntmps77
      go_wp2
      go_ret
      exact ⟨ret_bool H.out, rfl⟩
  · have H : Hid (false = inB lo hi v) := (inB_no (by omega)).symm
    go_enter Try.func77, Try.ntmps77
    go_wp2
    go_ret
    exact ⟨ret_bool H.out, rfl⟩


theorem l1Ceil_calls (a b : Int) (w : World) (hb : 0 < b) (hb2 : b ≤ 33554432) (h1 : 0 ≤ a) (h2 : a ≤ 9007199254740992) :
    Calls Try.prog 83 #[.int .i64 a, .int .i64 b] w fun e w' => e = .returned (.int .i64 (ceilV a b)) ∧ w' = w := by
  have hd := ceilV_bd a b h1 hb
  go_enter Try.func83, Try.ntmps83
  go_wp2
  go_ret
  exact ⟨ret_int rfl, rfl⟩


theorem near_bd (a b : Int) (hb : 0 < b) (hb2 : b ≤ 33554432) (h1 : 0 ≤ a) (h2 : a ≤ 1099511627776) : 0 ≤ nearV a b ∧ nearV a b ≤ 2199056809984 := by
  unfold nearV; rw [if_neg (by omega)]
  have hd := div_le (2 * a + b) (2 * b) (by omega) (by omega)
  omega

theorem near_flip (a b : Int) (h : a < 0) : -nearV (-a) b = nearV a b := by
  unfold nearV; rw [if_neg (by omega), if_pos h]


theorem floor_flip (a b : Int) (hb : 0 < b) : -ceilV (-a) b = a / b := by
  rw [← ceil_neg (-a) b hb, Int.neg_neg, Int.neg_neg]

theorem l1Floor_calls (a b : Int) (w : World) (hb : 0 < b) (hb2 : b ≤ 33554432) (h1 : -9007199254740992 ≤ a) (h2 : a ≤ 9007199254740992) :
    Calls Try.prog 82 #[.int .i64 a, .int .i64 b] w fun e w' => e = .returned (.int .i64 (a / b)) ∧ w' = w := by
  by_cases hm : a < 0
  · have hd := ceilV_bd (-a) b (by omega) hb
    have H : Hid (-ceilV (-a) b = a / b) := floor_flip a b hb
    go_enter Try.func82, Try.ntmps82
    go_wp2_with (go_at_call 83; refine (l1Ceil_calls _ _ _ hb hb2 (by omega) (by omega)).mono ?_; rintro e w' ⟨rfl, rfl⟩)
    go_ret
    exact ⟨ret_int H.out, rfl⟩
  · have hd := div_le a b (by omega) hb
    go_enter Try.func82, Try.ntmps82
    go_wp2
    go_ret
    exact ⟨rfl, rfl⟩

theorem l1Ten_calls (v : Int) (w : World) (h1 : -4503599627370496 ≤ v) (h2 : v ≤ 4503599627370496) :
    Calls Try.prog 78 #[.int .i64 v] w fun e w' => e = .returned (.int .i64 (tenV v)) ∧ w' = w := by
  go_enter Try.func78, Try.ntmps78
  go_wp2_with (go_at_call 82; refine (l1Floor_calls _ _ _ (by omega) (by omega) (by omega) (by omega)).mono ?_; rintro e w' ⟨rfl, rfl⟩)
  go_ret
  exact ⟨ret_int rfl, rfl⟩




theorem eqIntResult_calls (c v : Int) (w : World) :
    Calls Try.prog 19 #[.agg #[.int .i64 c, .int .i64 v], .agg #[.int .i64 c, .int .i64 v]] w fun e w' => e = .returned (.bool true) ∧ Below w.heap.size w w' := by
  go_enter Try.func19, Try.ntmps19
  go_wp2
  go_ret
  exact ⟨rfl, ((Below.refl _ _).alloc (Nat.le_refl _) _).alloc (by simp) _⟩

end Go.Proofs.Ytodfkicmmcfkaaa.Div
