/- RoundDiv, CeilDiv and TenOf, the program's and the model's: both return the same code and the same value; nothing that was there turns. No conditions. -/
import Derived.Test.YtjmcoipglgcomaaNum
namespace Go.Proofs.Ytjmcoipglgcomaa.Div
open Go.ChangeShapes Go.WideShapes Go.ChangeAt Go.RowKit Go.Proofs.Ytjmcoipglgcomaa.Num

def topB (v : Int) : Bool := inB (-1099511627776) 1099511627776 v
def underB (v : Int) : Bool := inB 1 33554432 v
def rdOk (a b : Int) : Bool := topB a && underB b
def cdOk (a b : Int) : Bool := inB 0 1099511627776 a && underB b
def rdC (a b : Int) : Int := if rdOk a b = true then 0 else 3
def rdV (a b : Int) : Int := if rdOk a b = true then nearV a b else 0
def cdC (a b : Int) : Int := if cdOk a b = true then 0 else 3
def cdV (a b : Int) : Int := if cdOk a b = true then ceilV a b else 0
def teC (v : Int) : Int := if topB v = true then 0 else 3
def teV (v : Int) : Int := if topB v = true then tenV v else 0

theorem ret_two {c v c' v' : Int} (h1 : c = c') (h2 : v = v') : Ending.returned (.agg #[.int .i64 c, .int .i64 v]) = .returned (.agg #[.int .i64 c', .int .i64 v']) := by rw [h1, h2]

theorem rd_yes {a b : Int} (h1 : topB a = true) (h2 : underB b = true) : 0 = rdC a b ∧ nearV a b = rdV a b := by
  unfold rdC rdV rdOk; simp [h1, h2]
theorem rd_no1 {a b : Int} (h1 : topB a = false) : 3 = rdC a b ∧ 0 = rdV a b := by
  unfold rdC rdV rdOk; simp [h1]
theorem rd_no2 {a b : Int} (h2 : underB b = false) : 3 = rdC a b ∧ 0 = rdV a b := by
  unfold rdC rdV rdOk; simp [h2]
theorem cd_yes {a b : Int} (h1 : inB 0 1099511627776 a = true) (h2 : underB b = true) : 0 = cdC a b ∧ ceilV a b = cdV a b := by
  unfold cdC cdV cdOk; simp [h1, h2]
theorem cd_no1 {a b : Int} (h1 : inB 0 1099511627776 a = false) : 3 = cdC a b ∧ 0 = cdV a b := by
  unfold cdC cdV cdOk; simp [h1]
theorem cd_no2 {a b : Int} (h2 : underB b = false) : 3 = cdC a b ∧ 0 = cdV a b := by
  unfold cdC cdV cdOk; simp [h2]
theorem te_yes {v : Int} (h : topB v = true) : 0 = teC v ∧ tenV v = teV v := by
  unfold teC teV; simp [h]
theorem te_no {v : Int} (h : topB v = false) : 3 = teC v ∧ 0 = teV v := by
  unfold teC teV; simp [h]

theorem implRoundDiv_calls (a b : Int) (w : World) :
    Calls Try.prog 11 #[.int .i64 a, .int .i64 b] w fun e w' => e = .returned (.agg #[.int .i64 (rdC a b), .int .i64 (rdV a b)]) ∧ Below w.heap.size w w' := by
  cases h1 : topB a
  · have H : Hid (3 = rdC a b ∧ 0 = rdV a b) := rd_no1 h1
    unfold topB at h1
    go_enter Try.func11, Try.ntmps11
    go_wp2_with (first | (go_at_call 36; refine (isWithin_calls _ _ _ _).mono ?_; rintro e w' ⟨rfl, rfl⟩))
    exact bodyPost_ret (v := .agg #[.int .i64 3, .int .i64 (0)]) (by simp [results, Try.results11, go_sem]) rfl ⟨ret_two H.out.1 H.out.2, (Below.refl _ _).alloc (Nat.le_refl _) _⟩
  · cases h2 : underB b
    · have H : Hid (3 = rdC a b ∧ 0 = rdV a b) := rd_no2 h2
      unfold topB at h1
      unfold underB at h2
      go_enter Try.func11, Try.ntmps11
      go_wp2_with (first | (go_at_call 36; refine (isWithin_calls _ _ _ _).mono ?_; rintro e w' ⟨rfl, rfl⟩))
      exact bodyPost_ret (v := .agg #[.int .i64 3, .int .i64 (0)]) (by simp [results, Try.results11, go_sem]) rfl ⟨ret_two H.out.1 H.out.2, (Below.refl _ _).alloc (Nat.le_refl _) _⟩
    · have H : Hid (0 = rdC a b ∧ nearV a b = rdV a b) := rd_yes h1 h2
      have b1 := of_inB h1
      have b2 := of_inB h2
      unfold topB at h1
      unfold underB at h2
      go_enter Try.func11, Try.ntmps11
      go_wp2_with (first | (go_at_call 36; refine (isWithin_calls _ _ _ _).mono ?_; rintro e w' ⟨rfl, rfl⟩) | (go_at_call 37; refine (near_calls _ _ _ (by omega) (by omega) (by omega) (by omega)).mono ?_; rintro e w' ⟨rfl, rfl⟩))
      exact bodyPost_ret (v := .agg #[.int .i64 0, .int .i64 (nearV a b)]) (by simp [results, Try.results11, go_sem]) rfl ⟨ret_two H.out.1 H.out.2, (Below.refl _ _).alloc (Nat.le_refl _) _⟩

theorem implCeilDiv_calls (a b : Int) (w : World) :
    Calls Try.prog 12 #[.int .i64 a, .int .i64 b] w fun e w' => e = .returned (.agg #[.int .i64 (cdC a b), .int .i64 (cdV a b)]) ∧ Below w.heap.size w w' := by
  cases h1 : inB 0 1099511627776 a
  · have H : Hid (3 = cdC a b ∧ 0 = cdV a b) := cd_no1 h1
    go_enter Try.func12, Try.ntmps12
    go_wp2_with (first | (go_at_call 36; refine (isWithin_calls _ _ _ _).mono ?_; rintro e w' ⟨rfl, rfl⟩))
    exact bodyPost_ret (v := .agg #[.int .i64 3, .int .i64 (0)]) (by simp [results, Try.results12, go_sem]) rfl ⟨ret_two H.out.1 H.out.2, (Below.refl _ _).alloc (Nat.le_refl _) _⟩
  · cases h2 : underB b
    · have H : Hid (3 = cdC a b ∧ 0 = cdV a b) := cd_no2 h2
      unfold underB at h2
      go_enter Try.func12, Try.ntmps12
      go_wp2_with (first | (go_at_call 36; refine (isWithin_calls _ _ _ _).mono ?_; rintro e w' ⟨rfl, rfl⟩))
      exact bodyPost_ret (v := .agg #[.int .i64 3, .int .i64 (0)]) (by simp [results, Try.results12, go_sem]) rfl ⟨ret_two H.out.1 H.out.2, (Below.refl _ _).alloc (Nat.le_refl _) _⟩
    · have H : Hid (0 = cdC a b ∧ ceilV a b = cdV a b) := cd_yes h1 h2
      have b1 := of_inB h1
      have b2 := of_inB h2
      unfold underB at h2
      go_enter Try.func12, Try.ntmps12
      go_wp2_with (first | (go_at_call 36; refine (isWithin_calls _ _ _ _).mono ?_; rintro e w' ⟨rfl, rfl⟩) | (go_at_call 38; refine (ceil_calls _ _ _ (by omega) (by omega) (by omega) (by omega)).mono ?_; rintro e w' ⟨rfl, rfl⟩))
      exact bodyPost_ret (v := .agg #[.int .i64 0, .int .i64 (ceilV a b)]) (by simp [results, Try.results12, go_sem]) rfl ⟨ret_two H.out.1 H.out.2, (Below.refl _ _).alloc (Nat.le_refl _) _⟩

theorem implTenOf_calls (v : Int) (w : World) :
    Calls Try.prog 19 #[.int .i64 v] w fun e w' => e = .returned (.agg #[.int .i64 (teC v), .int .i64 (teV v)]) ∧ Below w.heap.size w w' := by
  cases h1 : topB v
  · have H : Hid (3 = teC v ∧ 0 = teV v) := te_no h1
    unfold topB at h1
    go_enter Try.func19, Try.ntmps19
    go_wp2_with (first | (go_at_call 36; refine (isWithin_calls _ _ _ _).mono ?_; rintro e w' ⟨rfl, rfl⟩))
    exact bodyPost_ret (v := .agg #[.int .i64 3, .int .i64 (0)]) (by simp [results, Try.results19, go_sem]) rfl ⟨ret_two H.out.1 H.out.2, (Below.refl _ _).alloc (Nat.le_refl _) _⟩
  · have H : Hid (0 = teC v ∧ tenV v = teV v) := te_yes h1
    have b1 := of_inB h1
    unfold topB at h1
    go_enter Try.func19, Try.ntmps19
    go_wp2_with (first | (go_at_call 36; refine (isWithin_calls _ _ _ _).mono ?_; rintro e w' ⟨rfl, rfl⟩) | (go_at_call 44; refine (ten_calls _ _ (by omega) (by omega)).mono ?_; rintro e w' ⟨rfl, rfl⟩))
    exact bodyPost_ret (v := .agg #[.int .i64 0, .int .i64 (tenV v)]) (by simp [results, Try.results19, go_sem]) rfl ⟨ret_two H.out.1 H.out.2, (Below.refl _ _).alloc (Nat.le_refl _) _⟩

theorem l1In_calls (v lo hi : Int) (w : World) :
    Calls Try.prog 41 #[.int .i64 v, .int .i64 lo, .int .i64 hi] w fun e w' => e = .returned (.bool (inB lo hi v)) ∧ w' = w := by
  by_cases h1 : lo ≤ v
  · by_cases h2 : v ≤ hi
    · have H : Hid (true = inB lo hi v) := (inB_yes h1 h2).symm
      go_enter Try.func41, Try.ntmps41
      go_wp2
      go_ret
      exact ⟨ret_bool H.out, rfl⟩
    · have H : Hid (false = inB lo hi v) := (inB_no (by omega)).symm
      go_enter Try.func41, Try.ntmps41
      go_wp2
      go_ret
      exact ⟨ret_bool H.out, rfl⟩
  · have H : Hid (false = inB lo hi v) := (inB_no (by omega)).symm
    go_enter Try.func41, Try.ntmps41
    go_wp2
    go_ret
    exact ⟨ret_bool H.out, rfl⟩

theorem l1Top_calls (v : Int) (w : World) :
    Calls Try.prog 40 #[.int .i64 v] w fun e w' => e = .returned (.bool (topB v)) ∧ w' = w := by
  go_enter Try.func40, Try.ntmps40
  go_wp2_with (go_at_call 41; refine (l1In_calls _ _ _ _).mono ?_; rintro e w' ⟨rfl, rfl⟩)
  go_ret
  exact ⟨rfl, rfl⟩

theorem l1Ceil_calls (a b : Int) (w : World) (hb : 0 < b) (hb2 : b ≤ 33554432) (h1 : 0 ≤ a) (h2 : a ≤ 2199023255552) :
    Calls Try.prog 43 #[.int .i64 a, .int .i64 b] w fun e w' => e = .returned (.int .i64 (ceilV a b)) ∧ w' = w := by
  have hd := ceilV_bd a b h1 hb
  go_enter Try.func43, Try.ntmps43
  go_wp2
  go_ret
  exact ⟨ret_int rfl, rfl⟩

theorem l1Round_pos (a b : Int) (w : World) (hb : 0 < b) (hb2 : b ≤ 33554432) (h1 : 0 ≤ a) (h2 : a ≤ 1099511627776) :
    Calls Try.prog 42 #[.int .i64 a, .int .i64 b] w fun e w' => e = .returned (.int .i64 (nearV a b)) ∧ w' = w := by
  have hd := div_le (2 * a + b) (2 * b) (by omega) (by omega)
  have H : Hid ((2 * a + b) / (2 * b) = nearV a b) := by unfold Hid nearV; rw [if_neg (by omega)]
  go_enter Try.func42, Try.ntmps42
  go_wp2
  go_ret
  exact ⟨ret_int H.out, rfl⟩

theorem near_bd (a b : Int) (hb : 0 < b) (hb2 : b ≤ 33554432) (h1 : 0 ≤ a) (h2 : a ≤ 1099511627776) : 0 ≤ nearV a b ∧ nearV a b ≤ 2199056809984 := by
  unfold nearV; rw [if_neg (by omega)]
  have hd := div_le (2 * a + b) (2 * b) (by omega) (by omega)
  omega

theorem near_flip (a b : Int) (h : a < 0) : -nearV (-a) b = nearV a b := by
  unfold nearV; rw [if_neg (by omega), if_pos h]

theorem l1Round_calls (a b : Int) (w : World) (hb : 0 < b) (hb2 : b ≤ 33554432) (h1 : -1099511627776 ≤ a) (h2 : a ≤ 1099511627776) :
    Calls Try.prog 42 #[.int .i64 a, .int .i64 b] w fun e w' => e = .returned (.int .i64 (nearV a b)) ∧ w' = w := by
  by_cases hm : a < 0
  · have hd := near_bd (-a) b hb hb2 (by omega) (by omega)
    have H : Hid (-nearV (-a) b = nearV a b) := near_flip a b hm
    go_enter Try.func42, Try.ntmps42
    go_wp2_with (go_at_call 42; refine (l1Round_pos _ _ _ hb hb2 (by omega) (by omega)).mono ?_; rintro e w' ⟨rfl, rfl⟩)
    go_ret
    exact ⟨ret_int H.out, rfl⟩
  · exact l1Round_pos a b w hb hb2 (by omega) h2

theorem floor_flip (a b : Int) (hb : 0 < b) : -ceilV (-a) b = a / b := by
  rw [← ceil_neg (-a) b hb, Int.neg_neg, Int.neg_neg]

theorem l1Floor_calls (a b : Int) (w : World) (hb : 0 < b) (hb2 : b ≤ 33554432) (h1 : -2199023255552 ≤ a) (h2 : a ≤ 2199023255552) :
    Calls Try.prog 58 #[.int .i64 a, .int .i64 b] w fun e w' => e = .returned (.int .i64 (a / b)) ∧ w' = w := by
  by_cases hm : a < 0
  · have hd := ceilV_bd (-a) b (by omega) hb
    have H : Hid (-ceilV (-a) b = a / b) := floor_flip a b hb
    go_enter Try.func58, Try.ntmps58
    go_wp2_with (go_at_call 43; refine (l1Ceil_calls _ _ _ hb hb2 (by omega) (by omega)).mono ?_; rintro e w' ⟨rfl, rfl⟩)
    go_ret
    exact ⟨ret_int H.out, rfl⟩
  · have hd := div_le a b (by omega) hb
    go_enter Try.func58, Try.ntmps58
    go_wp2
    go_ret
    exact ⟨rfl, rfl⟩

theorem l1Ten_calls (v : Int) (w : World) (h1 : -1099511627776 ≤ v) (h2 : v ≤ 1099511627776) :
    Calls Try.prog 50 #[.int .i64 v] w fun e w' => e = .returned (.int .i64 (tenV v)) ∧ w' = w := by
  go_enter Try.func50, Try.ntmps50
  go_wp2_with (go_at_call 58; refine (l1Floor_calls _ _ _ (by omega) (by omega) (by omega) (by omega)).mono ?_; rintro e w' ⟨rfl, rfl⟩)
  go_ret
  exact ⟨ret_int rfl, rfl⟩

theorem specRoundDiv_calls (a b : Int) (w : World) :
    Calls Try.prog 15 #[.int .i64 a, .int .i64 b] w fun e w' => e = .returned (.agg #[.int .i64 (rdC a b), .int .i64 (rdV a b)]) ∧ Below w.heap.size w w' := by
  cases h1 : topB a
  · have H : Hid (3 = rdC a b ∧ 0 = rdV a b) := rd_no1 h1
    go_enter Try.func15, Try.ntmps15
    go_wp2_with (first | (go_at_call 40; refine (l1Top_calls _ _).mono ?_; rintro e w' ⟨rfl, rfl⟩) | (go_at_call 41; refine (l1In_calls _ _ _ _).mono ?_; rintro e w' ⟨rfl, rfl⟩))
    exact bodyPost_ret (v := .agg #[.int .i64 3, .int .i64 (0)]) (by simp [results, Try.results15, go_sem]) rfl ⟨ret_two H.out.1 H.out.2, (Below.refl _ _).alloc (Nat.le_refl _) _⟩
  · cases h2 : underB b
    · have H : Hid (3 = rdC a b ∧ 0 = rdV a b) := rd_no2 h2
      unfold underB at h2
      go_enter Try.func15, Try.ntmps15
      go_wp2_with (first | (go_at_call 40; refine (l1Top_calls _ _).mono ?_; rintro e w' ⟨rfl, rfl⟩) | (go_at_call 41; refine (l1In_calls _ _ _ _).mono ?_; rintro e w' ⟨rfl, rfl⟩))
      exact bodyPost_ret (v := .agg #[.int .i64 3, .int .i64 (0)]) (by simp [results, Try.results15, go_sem]) rfl ⟨ret_two H.out.1 H.out.2, (Below.refl _ _).alloc (Nat.le_refl _) _⟩
    · have H : Hid (0 = rdC a b ∧ nearV a b = rdV a b) := rd_yes h1 h2
      have b1 := of_inB h1
      have b2 := of_inB h2
      unfold underB at h2
      go_enter Try.func15, Try.ntmps15
      go_wp2_with (first | (go_at_call 40; refine (l1Top_calls _ _).mono ?_; rintro e w' ⟨rfl, rfl⟩) | (go_at_call 41; refine (l1In_calls _ _ _ _).mono ?_; rintro e w' ⟨rfl, rfl⟩) | (go_at_call 42; refine (l1Round_calls _ _ _ (by omega) (by omega) (by omega) (by omega)).mono ?_; rintro e w' ⟨rfl, rfl⟩))
      exact bodyPost_ret (v := .agg #[.int .i64 0, .int .i64 (nearV a b)]) (by simp [results, Try.results15, go_sem]) rfl ⟨ret_two H.out.1 H.out.2, (Below.refl _ _).alloc (Nat.le_refl _) _⟩

theorem specCeilDiv_calls (a b : Int) (w : World) :
    Calls Try.prog 16 #[.int .i64 a, .int .i64 b] w fun e w' => e = .returned (.agg #[.int .i64 (cdC a b), .int .i64 (cdV a b)]) ∧ Below w.heap.size w w' := by
  cases h1 : inB 0 1099511627776 a
  · have H : Hid (3 = cdC a b ∧ 0 = cdV a b) := cd_no1 h1
    go_enter Try.func16, Try.ntmps16
    go_wp2_with (first | (go_at_call 41; refine (l1In_calls _ _ _ _).mono ?_; rintro e w' ⟨rfl, rfl⟩))
    exact bodyPost_ret (v := .agg #[.int .i64 3, .int .i64 (0)]) (by simp [results, Try.results16, go_sem]) rfl ⟨ret_two H.out.1 H.out.2, (Below.refl _ _).alloc (Nat.le_refl _) _⟩
  · cases h2 : underB b
    · have H : Hid (3 = cdC a b ∧ 0 = cdV a b) := cd_no2 h2
      unfold underB at h2
      go_enter Try.func16, Try.ntmps16
      go_wp2_with (first | (go_at_call 41; refine (l1In_calls _ _ _ _).mono ?_; rintro e w' ⟨rfl, rfl⟩))
      exact bodyPost_ret (v := .agg #[.int .i64 3, .int .i64 (0)]) (by simp [results, Try.results16, go_sem]) rfl ⟨ret_two H.out.1 H.out.2, (Below.refl _ _).alloc (Nat.le_refl _) _⟩
    · have H : Hid (0 = cdC a b ∧ ceilV a b = cdV a b) := cd_yes h1 h2
      have b1 := of_inB h1
      have b2 := of_inB h2
      unfold underB at h2
      go_enter Try.func16, Try.ntmps16
      go_wp2_with (first | (go_at_call 41; refine (l1In_calls _ _ _ _).mono ?_; rintro e w' ⟨rfl, rfl⟩) | (go_at_call 43; refine (l1Ceil_calls _ _ _ (by omega) (by omega) (by omega) (by omega)).mono ?_; rintro e w' ⟨rfl, rfl⟩))
      exact bodyPost_ret (v := .agg #[.int .i64 0, .int .i64 (ceilV a b)]) (by simp [results, Try.results16, go_sem]) rfl ⟨ret_two H.out.1 H.out.2, (Below.refl _ _).alloc (Nat.le_refl _) _⟩

theorem specTenOf_calls (v : Int) (w : World) :
    Calls Try.prog 23 #[.int .i64 v] w fun e w' => e = .returned (.agg #[.int .i64 (teC v), .int .i64 (teV v)]) ∧ Below w.heap.size w w' := by
  cases h1 : topB v
  · have H : Hid (3 = teC v ∧ 0 = teV v) := te_no h1
    go_enter Try.func23, Try.ntmps23
    go_wp2_with (first | (go_at_call 40; refine (l1Top_calls _ _).mono ?_; rintro e w' ⟨rfl, rfl⟩))
    exact bodyPost_ret (v := .agg #[.int .i64 3, .int .i64 (0)]) (by simp [results, Try.results23, go_sem]) rfl ⟨ret_two H.out.1 H.out.2, (Below.refl _ _).alloc (Nat.le_refl _) _⟩
  · have H : Hid (0 = teC v ∧ tenV v = teV v) := te_yes h1
    have b1 := of_inB h1
    go_enter Try.func23, Try.ntmps23
    go_wp2_with (first | (go_at_call 40; refine (l1Top_calls _ _).mono ?_; rintro e w' ⟨rfl, rfl⟩) | (go_at_call 50; refine (l1Ten_calls _ _ (by omega) (by omega)).mono ?_; rintro e w' ⟨rfl, rfl⟩))
    exact bodyPost_ret (v := .agg #[.int .i64 0, .int .i64 (tenV v)]) (by simp [results, Try.results23, go_sem]) rfl ⟨ret_two H.out.1 H.out.2, (Below.refl _ _).alloc (Nat.le_refl _) _⟩

theorem eqIntResult_calls (c v : Int) (w : World) :
    Calls Try.prog 31 #[.agg #[.int .i64 c, .int .i64 v], .agg #[.int .i64 c, .int .i64 v]] w fun e w' => e = .returned (.bool true) ∧ Below w.heap.size w w' := by
  go_enter Try.func31, Try.ntmps31
  go_wp2
  go_ret
  exact ⟨rfl, ((Below.refl _ _).alloc (Nat.le_refl _) _).alloc (by simp) _⟩

end Go.Proofs.Ytjmcoipglgcomaa.Div
