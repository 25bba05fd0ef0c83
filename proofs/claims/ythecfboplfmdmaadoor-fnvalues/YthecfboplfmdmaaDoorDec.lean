/- Slots and decoders: the faults, the next value, whether two are the same: the program's and the model's. -/
import Derived.Test.YthecfboplfmdmaaDoorStr
import Derived.Test.YthecfboplfmdmaaDoorDiv
namespace Go.Proofs.YthecfboplfmdmaaDoor.Dec
open Go.ChangeShapes Go.WideShapes Go.ChangeAt Go.RowKit Go.Proofs.YthecfboplfmdmaaDoor.Num Go.Proofs.YthecfboplfmdmaaDoor.Sli Go.Proofs.YthecfboplfmdmaaDoor.App Go.Proofs.YthecfboplfmdmaaDoor.Byt Go.Proofs.YthecfboplfmdmaaDoor.CrcM Go.Proofs.YthecfboplfmdmaaDoor.Str Go.Proofs.YthecfboplfmdmaaDoor.Div

/-- The fault of a decoder whose list has n bytes. -/
def dF (n : Nat) (at' rst rng : Int) : Int := if 600 < n then 2 else if inB 0 10000 at' && inB 65536 16777216 rng && inB 0 (rng - 1) rst then 0 else 3
/-- The fault of a slot. -/
def sF (lo sz tot : Int) : Int := if inB 1 1024 tot && inB 1 tot sz && inB 0 (tot - sz) lo then 0 else 3
theorem dF_many {n : Nat} {at' rst rng : Int} (h : 600 < n) : dF n at' rst rng = 2 := if_pos h
theorem dF_in {n : Nat} {at' rst rng : Int} {x y z : Bool} (h : ¬ 600 < n) (hx : inB 0 10000 at' = x) (hy : inB 65536 16777216 rng = y) (hz : inB 0 (rng - 1) rst = z) : dF n at' rst rng = if x && y && z then 0 else 3 := by
  unfold dF; rw [if_neg h, hx, hy, hz]
theorem sF_in {lo sz tot : Int} {x y z : Bool} (hx : inB 1 1024 tot = x) (hy : inB 1 tot sz = y) (hz : inB 0 (tot - sz) lo = z) : sF lo sz tot = if x && y && z then 0 else 3 := by
  unfold sF; rw [hx, hy, hz]
theorem of_dF {n : Nat} {at' rst rng : Int} (h : dF n at' rst rng = 0) : n ≤ 600 ∧ (0 ≤ at' ∧ at' ≤ 10000) ∧ (65536 ≤ rng ∧ rng ≤ 16777216) ∧ (0 ≤ rst ∧ rst ≤ rng - 1) := by
  unfold dF at h
  split at h
  · cases h
  · split at h
    · rename_i h1 h2
      simp only [Bool.and_eq_true] at h2
      exact ⟨by omega, of_inB h2.1.1, of_inB h2.1.2, of_inB h2.2⟩
    · cases h
theorem of_sF {lo sz tot : Int} (h : sF lo sz tot = 0) : (1 ≤ tot ∧ tot ≤ 1024) ∧ (1 ≤ sz ∧ sz ≤ tot) ∧ (0 ≤ lo ∧ lo ≤ tot - sz) := by
  unfold sF at h
  split at h
  · rename_i h2
    simp only [Bool.and_eq_true] at h2
    exact ⟨of_inB h2.1.1, of_inB h2.1.2, of_inB h2.2⟩
  · cases h

set_option maxHeartbeats 1000000 in
theorem implDF_calls (a : Option Addr) (n cap : Nat) (at' rst rng : Int) (w : World) (hn : n ≤ 1048576) :
    Calls Tryd.prog 104 #[.agg #[.slice a n cap, .int .i64 at', .int .i64 rst, .int .i64 rng]] w fun e w' => e = .returned (.int .i64 (dF n at' rst rng)) ∧ Below w.heap.size w w' := by
  have Hb := hid (bmore (Below.refl _ w) (.cells #[.slice a n cap, .int .i64 at', .int .i64 rst, .int .i64 rng] 88))
  by_cases hl : 600 < n
  · have hl' : (600 : Int) < (n : Int) := by omega
    rw [dF_many hl]
    go_enter Tryd.func104, Tryd.ntmps104
    go_wp2
    go_ret
    exact ⟨rfl, Hb.out⟩
  · have hl' : (n : Int) ≤ 600 := by omega
    cases hx : inB 0 10000 at'
    · rw [dF_in hl hx rfl rfl]
      go_enter Tryd.func104, Tryd.ntmps104
      go_wp2_with (go_at_call 36; refine (isWithin_calls _ _ _ _).mono ?_; rintro e w' ⟨rfl, rfl⟩; simp only [hx])
      go_ret
      exact ⟨rfl, Hb.out⟩
    · cases hy : inB 65536 16777216 rng
      · rw [dF_in hl hx hy rfl]
        go_enter Tryd.func104, Tryd.ntmps104
        go_wp2_with (go_at_call 36; refine (isWithin_calls _ _ _ _).mono ?_; rintro e w' ⟨rfl, rfl⟩; simp only [hx, hy])
        go_ret
        exact ⟨rfl, Hb.out⟩
      · have hr := of_inB hy
        cases hz : inB 0 (rng - 1) rst
        all_goals
          rw [dF_in hl hx hy hz]
          go_enter Tryd.func104, Tryd.ntmps104
          go_wp2_with (go_at_call 36; refine (isWithin_calls _ _ _ _).mono ?_; rintro e w' ⟨rfl, rfl⟩; simp only [hx, hy, hz])
          go_ret
          exact ⟨rfl, Hb.out⟩
set_option maxHeartbeats 1000000 in
theorem implSF_calls (lo sz tot : Int) (w : World) :
    Calls Tryd.prog 51 #[.agg #[.int .i64 lo, .int .i64 sz, .int .i64 tot]] w fun e w' => e = .returned (.int .i64 (sF lo sz tot)) ∧ Below w.heap.size w w' := by
  have Hb := hid (bmore (Below.refl _ w) (.cells #[.int .i64 lo, .int .i64 sz, .int .i64 tot] 75))
  cases hx : inB 1 1024 tot
  · rw [sF_in hx rfl rfl]
    go_enter Tryd.func51, Tryd.ntmps51
    go_wp2_with (go_at_call 36; refine (isWithin_calls _ _ _ _).mono ?_; rintro e w' ⟨rfl, rfl⟩; simp only [hx])
    go_ret
    exact ⟨rfl, Hb.out⟩
  · have ht := of_inB hx
    cases hy : inB 1 tot sz
    · rw [sF_in hx hy rfl]
      go_enter Tryd.func51, Tryd.ntmps51
      go_wp2_with (go_at_call 36; refine (isWithin_calls _ _ _ _).mono ?_; rintro e w' ⟨rfl, rfl⟩; simp only [hx, hy])
      go_ret
      exact ⟨rfl, Hb.out⟩
    · have hs := of_inB hy
      cases hz : inB 0 (tot - sz) lo
      all_goals
        rw [sF_in hx hy hz]
        go_enter Tryd.func51, Tryd.ntmps51
        go_wp2_with (go_at_call 36; refine (isWithin_calls _ _ _ _).mono ?_; rintro e w' ⟨rfl, rfl⟩; simp only [hx, hy, hz])
        go_ret
        exact ⟨rfl, Hb.out⟩
end Go.Proofs.YthecfboplfmdmaaDoor.Dec
