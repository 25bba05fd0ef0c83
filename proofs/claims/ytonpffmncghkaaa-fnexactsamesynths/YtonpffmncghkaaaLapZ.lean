/- The laws' own helpers over answers that hold laps and synths. -/
import Derived.Test.YtonpffmncghkaaaLapY
namespace Go.Proofs.Ytonpffmncghkaaa.LapZ
open Go.ChangeShapes Go.WideShapes Go.ChangeAt Go.RowKit Go.Proofs.Ytonpffmncghkaaa.Num Go.Proofs.Ytonpffmncghkaaa.Sli Go.Proofs.Ytonpffmncghkaaa.App Go.Proofs.Ytonpffmncghkaaa.Blk Go.Proofs.Ytonpffmncghkaaa.IntL Go.Proofs.Ytonpffmncghkaaa.OwsG Go.Proofs.Ytonpffmncghkaaa.LapY
open Go.Proofs.Ytonpffmncghkaaa.ToInt (eqInt64S_calls)

theorem eqLapResult_calls (c s : Int) (v1 v2 u1 u2 : Value) (x1 x2 : List Int) (w : World) (h1 : Sl .i64 w v1 x1) (h2 : Sl .i64 w v2 x2) (k1 : Sl .i64 w u1 x1) (k2 : Sl .i64 w u2 x2) (m1 : x1.length ≤ 1048576) (m2 : x2.length ≤ 1048576) :
    Calls Try.prog 16 #[.agg #[.int .i64 c, .int .i64 s, v1, v2], .agg #[.int .i64 c, .int .i64 s, u1, u2]] w fun e w' => e = .returned (.bool true) ∧ Below w.heap.size w w' := by
  have hb := bmore (bmore (Below.refl _ w) (.cells #[.int .i64 c, .int .i64 s, v1, v2] 32)) (.cells #[.int .i64 c, .int .i64 s, u1, u2] 32)
  have H1 := hid (h1.later hb)
  have H2 := hid (h2.later hb)
  have K1 := hid (k1.later hb)
  have K2 := hid (k2.later hb)
  have HB := hid hb
  obtain ⟨a1, c1, rfl, -⟩ := id h1
  obtain ⟨a2, c2, rfl, -⟩ := id h2
  obtain ⟨a3, c3, rfl, -⟩ := id k1
  obtain ⟨a4, c4, rfl, -⟩ := id k2
  clear h1 h2 k1 k2 hb
  go_enter Try.func16, Try.ntmps16
  go_wp2_with fail
  refine (eqLap_calls s _ _ _ _ x1 x2 _ H1.out H2.out K1.out K2.out m1 m2).mono ?_
  rintro e w1 ⟨rfl, hb1⟩
  have HB1 := hid (bthen HB.out hb1)
  clear hb1 HB
  go_wp2
  go_ret
  exact ⟨rfl, HB1.out⟩
theorem markLapResult_calls (base : Nat) (c s : Int) (v1 v2 : Value) (x1 x2 : List Int) (w : World) (k : Nat) (h : OWS base w [(v1, x1), (v2, x2)]) (m1 : x1.length ≤ 1048576) (m2 : x2.length ≤ 1048576) (hk : k ≤ 1000000) :
    Calls Try.prog 17 #[.agg #[.int .i64 c, .int .i64 s, v1, v2], .int .i64 k] w fun e w' => e = .returned (.int .i64 ((k + x1.length + x2.length : Nat) : Int)) ∧ OWS base w' [(v1, marks k x1.length), (v2, marks (k + x1.length) x2.length)] ∧ On (Ob [v1, v2]) w w' := by
  obtain ⟨a1, c1, rfl, -⟩ := h.h1.sl
  obtain ⟨a2, c2, rfl, -⟩ := h.h2.sl
  have hb0 := bmore (Below.refl _ w) (.cells #[.int .i64 c, .int .i64 s, .slice a1 x1.length c1, .slice a2 x2.length c2] 32)
  have H0 := hid (h.later hb0)
  have HB0 := hid (On.of_below (S := Ob [.slice a1 x1.length c1, .slice a2 x2.length c2]) hb0)
  clear h hb0
  go_enter Try.func17, Try.ntmps17
  go_wp2_with fail
  refine (markLap_calls base s _ _ x1 x2 _ k H0.out m1 m2 (by omega)).mono ?_
  rintro e w1 ⟨rfl, ho, hg⟩
  have HO := hid ho
  have HB1 := hid (HB0.out.trans hg)
  clear ho hg H0 HB0
  go_wp2
  go_ret
  exact ⟨rfl, HO.out, HB1.out⟩
theorem heldLapResult_calls (c s : Int) (v1 v2 : Value) (n1 n2 : Nat) (w : World) (k : Nat) (h1 : Sl .i64 w v1 (marks k n1)) (h2 : Sl .i64 w v2 (marks (k + n1) n2)) (m1 : n1 ≤ 1048576) (m2 : n2 ≤ 1048576) (hk : k ≤ 1000000) :
    Calls Try.prog 18 #[.agg #[.int .i64 c, .int .i64 s, v1, v2], .int .i64 k] w fun e w' => e = .returned (.int .i64 ((k + n1 + n2 : Nat) : Int)) ∧ Below w.heap.size w w' := by
  have hb := bmore (Below.refl _ w) (.cells #[.int .i64 c, .int .i64 s, v1, v2] 32)
  have H1 := hid (h1.later hb)
  have H2 := hid (h2.later hb)
  have HB := hid hb
  obtain ⟨a1, c1, rfl, -⟩ := id h1
  obtain ⟨a2, c2, rfl, -⟩ := id h2
  clear h1 h2 hb
  go_enter Try.func18, Try.ntmps18
  go_wp2_with fail
  refine (heldLap_calls s _ _ n1 n2 _ k H1.out H2.out m1 m2 (by omega)).mono ?_
  rintro e w1 ⟨rfl, hb1⟩
  have HB1 := hid (bthen HB.out hb1)
  obtain ⟨K, hK⟩ : ∃ K : Nat, k + n1 + n2 = K := ⟨_, rfl⟩
  have HKk := hid hK
  rw [hK]
  have hp : ¬ (K : Int) < 0 := by omega
  clear hb1 HB hK
  go_wp2
  go_ret
  exact ⟨by rw [HKk.out]; rfl, HB1.out⟩
theorem eqSynthResult_calls (c s : Int) (v1 v2 u1 u2 : Value) (x1 x2 : List Int) (w : World) (h1 : Sl .i64 w v1 x1) (h2 : Sl .i64 w v2 x2) (k1 : Sl .i64 w u1 x1) (k2 : Sl .i64 w u2 x2) (m1 : x1.length ≤ 1048576) (m2 : x2.length ≤ 1048576) :
    Calls Try.prog 26 #[.agg #[.int .i64 c, .int .i64 s, v1, v2], .agg #[.int .i64 c, .int .i64 s, u1, u2]] w fun e w' => e = .returned (.bool true) ∧ Below w.heap.size w w' := by
  have hb := bmore (bmore (Below.refl _ w) (.cells #[.int .i64 c, .int .i64 s, v1, v2] 46)) (.cells #[.int .i64 c, .int .i64 s, u1, u2] 46)
  have H1 := hid (h1.later hb)
  have H2 := hid (h2.later hb)
  have K1 := hid (k1.later hb)
  have K2 := hid (k2.later hb)
  have HB := hid hb
  obtain ⟨a1, c1, rfl, -⟩ := id h1
  obtain ⟨a2, c2, rfl, -⟩ := id h2
  obtain ⟨a3, c3, rfl, -⟩ := id k1
  obtain ⟨a4, c4, rfl, -⟩ := id k2
  clear h1 h2 k1 k2 hb
  go_enter Try.func26, Try.ntmps26
  go_wp2_with fail
  refine (eqSynth_calls s _ _ _ _ x1 x2 _ H1.out H2.out K1.out K2.out m1 m2).mono ?_
  rintro e w1 ⟨rfl, hb1⟩
  have HB1 := hid (bthen HB.out hb1)
  clear hb1 HB
  go_wp2
  go_ret
  exact ⟨rfl, HB1.out⟩
theorem markSynthResult_calls (base : Nat) (c s : Int) (v1 v2 : Value) (x1 x2 : List Int) (w : World) (k : Nat) (h : OWS base w [(v1, x1), (v2, x2)]) (m1 : x1.length ≤ 1048576) (m2 : x2.length ≤ 1048576) (hk : k ≤ 1000000) :
    Calls Try.prog 27 #[.agg #[.int .i64 c, .int .i64 s, v1, v2], .int .i64 k] w fun e w' => e = .returned (.int .i64 ((k + x1.length + x2.length : Nat) : Int)) ∧ OWS base w' [(v1, marks k x1.length), (v2, marks (k + x1.length) x2.length)] ∧ On (Ob [v1, v2]) w w' := by
  obtain ⟨a1, c1, rfl, -⟩ := h.h1.sl
  obtain ⟨a2, c2, rfl, -⟩ := h.h2.sl
  have hb0 := bmore (Below.refl _ w) (.cells #[.int .i64 c, .int .i64 s, .slice a1 x1.length c1, .slice a2 x2.length c2] 46)
  have H0 := hid (h.later hb0)
  have HB0 := hid (On.of_below (S := Ob [.slice a1 x1.length c1, .slice a2 x2.length c2]) hb0)
  clear h hb0
  go_enter Try.func27, Try.ntmps27
  go_wp2_with fail
  refine (markSynth_calls base s _ _ x1 x2 _ k H0.out m1 m2 (by omega)).mono ?_
  rintro e w1 ⟨rfl, ho, hg⟩
  have HO := hid ho
  have HB1 := hid (HB0.out.trans hg)
  clear ho hg H0 HB0
  go_wp2
  go_ret
  exact ⟨rfl, HO.out, HB1.out⟩
theorem heldSynthResult_calls (c s : Int) (v1 v2 : Value) (n1 n2 : Nat) (w : World) (k : Nat) (h1 : Sl .i64 w v1 (marks k n1)) (h2 : Sl .i64 w v2 (marks (k + n1) n2)) (m1 : n1 ≤ 1048576) (m2 : n2 ≤ 1048576) (hk : k ≤ 1000000) :
    Calls Try.prog 28 #[.agg #[.int .i64 c, .int .i64 s, v1, v2], .int .i64 k] w fun e w' => e = .returned (.int .i64 ((k + n1 + n2 : Nat) : Int)) ∧ Below w.heap.size w w' := by
  have hb := bmore (Below.refl _ w) (.cells #[.int .i64 c, .int .i64 s, v1, v2] 46)
  have H1 := hid (h1.later hb)
  have H2 := hid (h2.later hb)
  have HB := hid hb
  obtain ⟨a1, c1, rfl, -⟩ := id h1
  obtain ⟨a2, c2, rfl, -⟩ := id h2
  clear h1 h2 hb
  go_enter Try.func28, Try.ntmps28
  go_wp2_with fail
  refine (heldSynth_calls s _ _ n1 n2 _ k H1.out H2.out m1 m2 (by omega)).mono ?_
  rintro e w1 ⟨rfl, hb1⟩
  have HB1 := hid (bthen HB.out hb1)
  obtain ⟨K, hK⟩ : ∃ K : Nat, k + n1 + n2 = K := ⟨_, rfl⟩
  have HKk := hid hK
  rw [hK]
  have hp : ¬ (K : Int) < 0 := by omega
  clear hb1 HB hK
  go_wp2
  go_ret
  exact ⟨by rw [HKk.out]; rfl, HB1.out⟩
end Go.Proofs.Ytonpffmncghkaaa.LapZ
