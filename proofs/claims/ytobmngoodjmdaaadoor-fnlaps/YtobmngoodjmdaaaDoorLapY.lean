/- The laws' own helpers over laps and synths: whether two are the same, marks that are written into their lists and found there again. -/
import Derived.Test.YtobmngoodjmdaaaDoorLapX
namespace Go.Proofs.YtobmngoodjmdaaaDoor.LapY
open Go.ChangeShapes Go.WideShapes Go.ChangeAt Go.RowKit Go.Proofs.YtobmngoodjmdaaaDoor.Num Go.Proofs.YtobmngoodjmdaaaDoor.Sli Go.Proofs.YtobmngoodjmdaaaDoor.App Go.Proofs.YtobmngoodjmdaaaDoor.Blk Go.Proofs.YtobmngoodjmdaaaDoor.IntL Go.Proofs.YtobmngoodjmdaaaDoor.OwsG
open Go.Proofs.YtobmngoodjmdaaaDoor.ToInt (eqInt64S_calls)

theorem eqLap_calls (s : Int) (v1 v2 u1 u2 : Value) (x1 x2 : List Int) (w : World) (h1 : Sl .i64 w v1 x1) (h2 : Sl .i64 w v2 x2) (k1 : Sl .i64 w u1 x1) (k2 : Sl .i64 w u2 x2) (m1 : x1.length ≤ 1048576) (m2 : x2.length ≤ 1048576) :
    Calls Tryd.prog 26 #[.agg #[.int .i64 s, v1, v2], .agg #[.int .i64 s, u1, u2]] w fun e w' => e = .returned (.bool true) ∧ Below w.heap.size w w' := by
  have hb := bmore (bmore (Below.refl _ w) (.cells #[.int .i64 s, v1, v2] 29)) (.cells #[.int .i64 s, u1, u2] 29)
  have H1 := hid (h1.later hb)
  have H2 := hid (h2.later hb)
  have K1 := hid (k1.later hb)
  have K2 := hid (k2.later hb)
  have HB := hid hb
  obtain ⟨a1, c1, rfl, -⟩ := id h1
  obtain ⟨a2, c2, rfl, -⟩ := id h2
  obtain ⟨a3, c3, rfl, -⟩ := id k1
  obtain ⟨a4, c4, rfl, -⟩ := id k2
  clear h1 h2 k1 k2 hb
  go_enter Tryd.func26, Tryd.ntmps26
  go_wp2_with fail
  refine (eqInt64S_calls _ _ x1 _ H1.out K1.out m1).mono ?_
  rintro e w1 ⟨rfl, hb1⟩
  have H21 := hid (H2.out.later hb1)
  have K21 := hid (K2.out.later hb1)
  have HB1 := hid (bthen HB.out hb1)
  obtain ⟨hP, hQ, _, _⟩ := boxes2 hb1
  obtain ⟨p0, p1, p2, _⟩ := hP.three
  obtain ⟨q0, q1, q2, _⟩ := hQ.three
  clear hb1 hP hQ H1 H2 K1 K2 HB
  go_wp2_with fail
  refine (eqInt64S_calls _ _ x2 _ H21.out K21.out m2).mono ?_
  rintro e w2 ⟨rfl, hb2⟩
  have HB2 := hid (bthen HB1.out hb2)
  clear hb2 H21 K21 HB1
  go_wp2
  go_ret
  exact ⟨rfl, HB2.out⟩
theorem markLap_calls (base : Nat) (s : Int) (v1 v2 : Value) (x1 x2 : List Int) (w : World) (k : Nat) (h : OWS base w [(v1, x1), (v2, x2)]) (m1 : x1.length ≤ 1048576) (m2 : x2.length ≤ 1048576) (hk : k ≤ 5000000) :
    Calls Tryd.prog 28 #[.agg #[.int .i64 s, v1, v2], .int .i64 k] w fun e w' => e = .returned (.int .i64 ((k + x1.length + x2.length : Nat) : Int)) ∧ OWS base w' [(v1, marks k x1.length), (v2, marks (k + x1.length) x2.length)] ∧ On (Ob [v1, v2]) w w' := by
  obtain ⟨a1, c1, rfl, -⟩ := h.h1.sl
  obtain ⟨a2, c2, rfl, -⟩ := h.h2.sl
  have hb0 := bmore (Below.refl _ w) (.cells #[.int .i64 s, .slice a1 x1.length c1, .slice a2 x2.length c2] 29)
  have HR := hid (Blk.new w #[.int .i64 s, .slice a1 x1.length c1, .slice a2 x2.length c2] 29)
  have H0 := hid (h.later hb0)
  have HB0 := hid (On.of_below (S := Ob [.slice a1 x1.length c1, .slice a2 x2.length c2]) hb0)
  have hf1 : Hid (∀ j, (Value.slice a1 x1.length c1).ownBlock = some j → j < w.heap.size) := fun j e => (h.h1.block j e).2
  clear h hb0
  obtain ⟨K, hK⟩ : ∃ K : Nat, k + x1.length = K := ⟨_, rfl⟩
  have HK := hid hK
  rw [hK]
  clear hK
  go_enter Tryd.func28, Tryd.ntmps28
  go_wp2_with fail
  refine (markInt64S_calls base _ x1 _ k H0.out.h1 m1 (by omega)).mono ?_
  rintro e w1 ⟨rfl, ho, hg⟩
  have hr1 := HR.out.kept hg (fun e => by have := hf1.out _ e; omega)
  obtain ⟨_, _, q2, _⟩ := hr1.three
  have H1 := hid (OWS.turn (A := []) H0.out ho hg)
  have HB1 := hid (HB0.out.trans ((On.of_grown hg).more (fun j e => ⟨_, List.mem_cons_self .., e⟩)))
  clear ho hg hr1 HR H0 HB0 hf1
  rw [HK.out]
  go_wp2_with fail
  refine (markInt64S_calls base _ x2 _ K H1.out.h2 m2 (by have := HK.out; omega)).mono ?_
  rintro e w2 ⟨rfl, ho2, hg2⟩
  have H2 := hid (OWS.turn (A := [(.slice a1 x1.length c1, marks k x1.length)]) H1.out ho2 hg2)
  have HB2 := hid (HB1.out.trans ((On.of_grown hg2).more (fun j e => ⟨_, List.mem_cons_of_mem _ (List.mem_cons_self ..), e⟩)))
  clear ho2 hg2 H1 HB1 q2
  go_wp2
  go_ret
  exact ⟨rfl, H2.out, HB2.out⟩
theorem heldLap_calls (s : Int) (v1 v2 : Value) (n1 n2 : Nat) (w : World) (k : Nat) (h1 : Sl .i64 w v1 (marks k n1)) (h2 : Sl .i64 w v2 (marks (k + n1) n2)) (m1 : n1 ≤ 1048576) (m2 : n2 ≤ 1048576) (hk : k ≤ 5000000) :
    Calls Tryd.prog 71 #[.agg #[.int .i64 s, v1, v2], .int .i64 k] w fun e w' => e = .returned (.int .i64 ((k + n1 + n2 : Nat) : Int)) ∧ Below w.heap.size w w' := by
  have hb := bmore (Below.refl _ w) (.cells #[.int .i64 s, v1, v2] 29)
  have H1 := hid (h1.later hb)
  have H2 := hid (h2.later hb)
  have HB := hid hb
  obtain ⟨a1, c1, rfl, -⟩ := id h1
  obtain ⟨a2, c2, rfl, -⟩ := id h2
  clear h1 h2 hb
  rw [marks_len] at *
  rw [marks_len] at *
  go_enter Tryd.func71, Tryd.ntmps71
  go_wp2_with fail
  refine (heldInt64S_calls _ n1 _ k H1.out m1 (by omega)).mono ?_
  rintro e w' ⟨rfl, rfl⟩
  have hp1 : ¬ (((k + n1 : Nat) : Int)) < 0 := by omega
  have hp2 : ¬ (((k + n1 + n2 : Nat) : Int)) < 0 := by omega
  go_wp2_with fail
  refine (heldInt64S_calls _ n2 _ (k + n1) H2.out m2 (by omega)).mono ?_
  rintro e w' ⟨rfl, rfl⟩
  go_wp2
  go_ret
  exact ⟨rfl, HB.out⟩
theorem eqSynth_calls (s : Int) (v1 v2 u1 u2 : Value) (x1 x2 : List Int) (w : World) (h1 : Sl .i64 w v1 x1) (h2 : Sl .i64 w v2 x2) (k1 : Sl .i64 w u1 x1) (k2 : Sl .i64 w u2 x2) (m1 : x1.length ≤ 1048576) (m2 : x2.length ≤ 1048576) :
    Calls Tryd.prog 35 #[.agg #[.int .i64 s, v1, v2], .agg #[.int .i64 s, u1, u2]] w fun e w' => e = .returned (.bool true) ∧ Below w.heap.size w w' := by
  have hb := bmore (bmore (Below.refl _ w) (.cells #[.int .i64 s, v1, v2] 34)) (.cells #[.int .i64 s, u1, u2] 34)
  have H1 := hid (h1.later hb)
  have H2 := hid (h2.later hb)
  have K1 := hid (k1.later hb)
  have K2 := hid (k2.later hb)
  have HB := hid hb
  obtain ⟨a1, c1, rfl, -⟩ := id h1
  obtain ⟨a2, c2, rfl, -⟩ := id h2
  obtain ⟨a3, c3, rfl, -⟩ := id k1
  obtain ⟨a4, c4, rfl, -⟩ := id k2
  clear h1 h2 k1 k2 hb
  go_enter Tryd.func35, Tryd.ntmps35
  go_wp2_with fail
  refine (eqInt64S_calls _ _ x1 _ H1.out K1.out m1).mono ?_
  rintro e w1 ⟨rfl, hb1⟩
  have H21 := hid (H2.out.later hb1)
  have K21 := hid (K2.out.later hb1)
  have HB1 := hid (bthen HB.out hb1)
  obtain ⟨hP, hQ, _, _⟩ := boxes2 hb1
  obtain ⟨p0, p1, p2, _⟩ := hP.three
  obtain ⟨q0, q1, q2, _⟩ := hQ.three
  clear hb1 hP hQ H1 H2 K1 K2 HB
  go_wp2_with fail
  refine (eqInt64S_calls _ _ x2 _ H21.out K21.out m2).mono ?_
  rintro e w2 ⟨rfl, hb2⟩
  have HB2 := hid (bthen HB1.out hb2)
  clear hb2 H21 K21 HB1
  go_wp2
  go_ret
  exact ⟨rfl, HB2.out⟩
theorem markSynth_calls (base : Nat) (s : Int) (v1 v2 : Value) (x1 x2 : List Int) (w : World) (k : Nat) (h : OWS base w [(v1, x1), (v2, x2)]) (m1 : x1.length ≤ 1048576) (m2 : x2.length ≤ 1048576) (hk : k ≤ 5000000) :
    Calls Tryd.prog 36 #[.agg #[.int .i64 s, v1, v2], .int .i64 k] w fun e w' => e = .returned (.int .i64 ((k + x1.length + x2.length : Nat) : Int)) ∧ OWS base w' [(v1, marks k x1.length), (v2, marks (k + x1.length) x2.length)] ∧ On (Ob [v1, v2]) w w' := by
  obtain ⟨a1, c1, rfl, -⟩ := h.h1.sl
  obtain ⟨a2, c2, rfl, -⟩ := h.h2.sl
  have hb0 := bmore (Below.refl _ w) (.cells #[.int .i64 s, .slice a1 x1.length c1, .slice a2 x2.length c2] 34)
  have HR := hid (Blk.new w #[.int .i64 s, .slice a1 x1.length c1, .slice a2 x2.length c2] 34)
  have H0 := hid (h.later hb0)
  have HB0 := hid (On.of_below (S := Ob [.slice a1 x1.length c1, .slice a2 x2.length c2]) hb0)
  have hf1 : Hid (∀ j, (Value.slice a1 x1.length c1).ownBlock = some j → j < w.heap.size) := fun j e => (h.h1.block j e).2
  clear h hb0
  obtain ⟨K, hK⟩ : ∃ K : Nat, k + x1.length = K := ⟨_, rfl⟩
  have HK := hid hK
  rw [hK]
  clear hK
  go_enter Tryd.func36, Tryd.ntmps36
  go_wp2_with fail
  refine (markInt64S_calls base _ x1 _ k H0.out.h1 m1 (by omega)).mono ?_
  rintro e w1 ⟨rfl, ho, hg⟩
  have hr1 := HR.out.kept hg (fun e => by have := hf1.out _ e; omega)
  obtain ⟨_, _, q2, _⟩ := hr1.three
  have H1 := hid (OWS.turn (A := []) H0.out ho hg)
  have HB1 := hid (HB0.out.trans ((On.of_grown hg).more (fun j e => ⟨_, List.mem_cons_self .., e⟩)))
  clear ho hg hr1 HR H0 HB0 hf1
  rw [HK.out]
  go_wp2_with fail
  refine (markInt64S_calls base _ x2 _ K H1.out.h2 m2 (by have := HK.out; omega)).mono ?_
  rintro e w2 ⟨rfl, ho2, hg2⟩
  have H2 := hid (OWS.turn (A := [(.slice a1 x1.length c1, marks k x1.length)]) H1.out ho2 hg2)
  have HB2 := hid (HB1.out.trans ((On.of_grown hg2).more (fun j e => ⟨_, List.mem_cons_of_mem _ (List.mem_cons_self ..), e⟩)))
  clear ho2 hg2 H1 HB1 q2
  go_wp2
  go_ret
  exact ⟨rfl, H2.out, HB2.out⟩
theorem heldSynth_calls (s : Int) (v1 v2 : Value) (n1 n2 : Nat) (w : World) (k : Nat) (h1 : Sl .i64 w v1 (marks k n1)) (h2 : Sl .i64 w v2 (marks (k + n1) n2)) (m1 : n1 ≤ 1048576) (m2 : n2 ≤ 1048576) (hk : k ≤ 5000000) :
    Calls Tryd.prog 73 #[.agg #[.int .i64 s, v1, v2], .int .i64 k] w fun e w' => e = .returned (.int .i64 ((k + n1 + n2 : Nat) : Int)) ∧ Below w.heap.size w w' := by
  have hb := bmore (Below.refl _ w) (.cells #[.int .i64 s, v1, v2] 34)
  have H1 := hid (h1.later hb)
  have H2 := hid (h2.later hb)
  have HB := hid hb
  obtain ⟨a1, c1, rfl, -⟩ := id h1
  obtain ⟨a2, c2, rfl, -⟩ := id h2
  clear h1 h2 hb
  rw [marks_len] at *
  rw [marks_len] at *
  go_enter Tryd.func73, Tryd.ntmps73
  go_wp2_with fail
  refine (heldInt64S_calls _ n1 _ k H1.out m1 (by omega)).mono ?_
  rintro e w' ⟨rfl, rfl⟩
  have hp1 : ¬ (((k + n1 : Nat) : Int)) < 0 := by omega
  have hp2 : ¬ (((k + n1 + n2 : Nat) : Int)) < 0 := by omega
  go_wp2_with fail
  refine (heldInt64S_calls _ n2 _ (k + n1) H2.out m2 (by omega)).mono ?_
  rintro e w' ⟨rfl, rfl⟩
  go_wp2
  go_ret
  exact ⟨rfl, HB.out⟩
end Go.Proofs.YtobmngoodjmdaaaDoor.LapY
