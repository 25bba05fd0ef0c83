/- The laws' own helpers over answers that hold laps and synths. -/
import Derived.Test.YtobmngoodjmdaaaDoorLapY
namespace Go.Proofs.YtobmngoodjmdaaaDoor.LapZ
open Go.ChangeShapes Go.WideShapes Go.ChangeAt Go.RowKit Go.Proofs.YtobmngoodjmdaaaDoor.Num Go.Proofs.YtobmngoodjmdaaaDoor.Sli Go.Proofs.YtobmngoodjmdaaaDoor.App Go.Proofs.YtobmngoodjmdaaaDoor.Blk Go.Proofs.YtobmngoodjmdaaaDoor.IntL Go.Proofs.YtobmngoodjmdaaaDoor.OwsG Go.Proofs.YtobmngoodjmdaaaDoor.LapY
open Go.Proofs.YtobmngoodjmdaaaDoor.ToInt (eqInt64S_calls)

theorem eqFeedResult_calls (c s : Int) (v1 v2 v3 u1 u2 u3 : Value) (x1 x2 x3 : List Int) (w : World) (h1 : Sl .i64 w v1 x1) (h2 : Sl .i64 w v2 x2) (h3 : Sl .i64 w v3 x3) (k1 : Sl .i64 w u1 x1) (k2 : Sl .i64 w u2 x2) (k3 : Sl .i64 w u3 x3) (m1 : x1.length ≤ 1048576) (m2 : x2.length ≤ 1048576) (m3 : x3.length ≤ 1048576) :
    Calls Tryd.prog 25 #[.agg #[.int .i64 c, .int .i64 s, v1, v2, v3], .agg #[.int .i64 c, .int .i64 s, u1, u2, u3]] w fun e w' => e = .returned (.bool true) ∧ Below w.heap.size w w' := by
  have hb := bmore (bmore (Below.refl _ w) (.cells #[.int .i64 c, .int .i64 s, v1, v2, v3] 41)) (.cells #[.int .i64 c, .int .i64 s, u1, u2, u3] 41)
  have H1 := hid (h1.later hb)
  have H2 := hid (h2.later hb)
  have H3 := hid (h3.later hb)
  have K1 := hid (k1.later hb)
  have K2 := hid (k2.later hb)
  have K3 := hid (k3.later hb)
  have HB := hid hb
  obtain ⟨a1, c1, rfl, -⟩ := id h1
  obtain ⟨a2, c2, rfl, -⟩ := id h2
  obtain ⟨a3, c3, rfl, -⟩ := id k1
  obtain ⟨a4, c4, rfl, -⟩ := id k2
  obtain ⟨a5, c5, rfl, -⟩ := id h3
  obtain ⟨a6, c6, rfl, -⟩ := id k3
  clear h1 h2 h3 k1 k2 k3 hb
  go_enter Tryd.func25, Tryd.ntmps25
  go_wp2_with fail
  refine (eqLap_calls s _ _ _ _ x1 x2 _ H1.out H2.out K1.out K2.out m1 m2).mono ?_
  rintro e w1 ⟨rfl, hb1⟩
  have HB1 := hid (bthen HB.out hb1)
  have H31 := hid (H3.out.later hb1)
  have K31 := hid (K3.out.later hb1)
  obtain ⟨hP, hQ, _, _⟩ := boxes2 hb1
  obtain ⟨p0, p1, p2, p3, p4, _⟩ := hP.five
  obtain ⟨q0, q1, q2, q3, q4, _⟩ := hQ.five
  clear hb1 HB hP hQ H1 H2 H3 K1 K2 K3
  go_wp2_with fail
  refine (eqInt64S_calls _ _ x3 _ H31.out K31.out m3).mono ?_
  rintro e w2 ⟨rfl, hb2⟩
  have HB2 := hid (bthen HB1.out hb2)
  clear hb2 HB1 H31 K31
  go_wp2
  go_ret
  exact ⟨rfl, HB2.out⟩
set_option maxHeartbeats 1000000 in
theorem markFeedResult_calls (base : Nat) (c s : Int) (v1 v2 v3 : Value) (x1 x2 x3 : List Int) (w : World) (k : Nat) (h : OWS base w [(v1, x1), (v2, x2), (v3, x3)]) (m1 : x1.length ≤ 1048576) (m2 : x2.length ≤ 1048576) (m3 : x3.length ≤ 1048576) (hk : k ≤ 1000000) :
    Calls Tryd.prog 30 #[.agg #[.int .i64 c, .int .i64 s, v1, v2, v3], .int .i64 k] w fun e w' => e = .returned (.int .i64 ((k + x1.length + x2.length + x3.length : Nat) : Int)) ∧ OWS base w' [(v1, marks k x1.length), (v2, marks (k + x1.length) x2.length), (v3, marks (k + x1.length + x2.length) x3.length)] ∧ On (Ob [v1, v2, v3]) w w' := by
  obtain ⟨a1, c1, rfl, -⟩ := h.h1.sl
  obtain ⟨a2, c2, rfl, -⟩ := h.h2.sl
  obtain ⟨a3, c3, rfl, -⟩ := h.h3.sl
  have hb0 := bmore (Below.refl _ w) (.cells #[.int .i64 c, .int .i64 s, .slice a1 x1.length c1, .slice a2 x2.length c2, .slice a3 x3.length c3] 41)
  have HR := hid (Blk.new w #[.int .i64 c, .int .i64 s, .slice a1 x1.length c1, .slice a2 x2.length c2, .slice a3 x3.length c3] 41)
  have H0 := hid (h.later hb0)
  have HB0 := hid (On.of_below (S := Ob [.slice a1 x1.length c1, .slice a2 x2.length c2, .slice a3 x3.length c3]) hb0)
  have hfar : Hid (∀ j, Ob [.slice a1 x1.length c1, .slice a2 x2.length c2] j → j ≠ w.heap.size) := fun j e => by
    obtain ⟨v, hv, e⟩ := e
    rcases List.mem_cons.1 hv with rfl | hv
    · have := (h.h1.block j e).2; omega
    · rcases List.mem_cons.1 hv with rfl | hv
      · have := (h.h2.block j e).2; omega
      · cases hv
  have hn3 : Hid (∀ j, (Value.slice a3 x3.length c3).ownBlock = some j → ¬ Ob [.slice a1 x1.length c1, .slice a2 x2.length c2] j) := fun j e ⟨v, hv, e2⟩ => by
    have hp := h.ne
    rcases List.mem_cons.1 hv with rfl | hv
    · exact (List.pairwise_cons.1 hp).1 _ (List.mem_cons_of_mem _ (List.mem_cons_self ..)) j e2 e
    · rcases List.mem_cons.1 hv with rfl | hv
      · exact (List.pairwise_cons.1 (List.pairwise_cons.1 hp).2).1 _ (List.mem_cons_self ..) j e2 e
      · cases hv
  have HP2 := hid (h.sub (qs := [(.slice a1 x1.length c1, x1), (.slice a2 x2.length c2, x2)]) (.cons_cons _ (.cons_cons _ (List.nil_sublist _))))
  have HN : Hid (∀ (W : World) (y1 y2 y3 : List Int), OWS base W [(.slice a1 x1.length c1, y1), (.slice a2 x2.length c2, y2)] → OwI base W (.slice a3 x3.length c3) y3 → OWS base W [(.slice a1 x1.length c1, y1), (.slice a2 x2.length c2, y2), (.slice a3 x3.length c3, y3)]) := fun W y1 y2 y3 q1 q2 => OWS.three q1 q2 (fun g e e2 => hn3.out g e2 ⟨_, List.mem_cons_self .., e⟩) (fun g e e2 => hn3.out g e2 ⟨_, List.mem_cons_of_mem _ (List.mem_cons_self ..), e⟩)
  have HP20 := hid (HP2.out.later hb0)
  clear h hb0
  obtain ⟨K, hK⟩ : ∃ K : Nat, k + x1.length + x2.length = K := ⟨_, rfl⟩
  have HKk := hid hK
  rw [hK]
  clear hK
  go_enter Tryd.func30, Tryd.ntmps30
  go_wp2_with fail
  refine (markLap_calls base s _ _ x1 x2 _ k HP20.out m1 m2 (by omega)).mono ?_
  rintro e w1 ⟨rfl, ho, hg⟩
  have hr1 := hg.blk HR.out (fun e => hfar.out _ e rfl)
  obtain ⟨_, _, _, _, q4, _⟩ := hr1.five
  have H31 := hid (hg.ow H0.out.h3 hn3.out)
  have H1 := hid (HN.out _ _ _ _ ho H31.out)
  have HB1 := hid (HB0.out.trans (hg.more (fun _ e => e.sub (.cons_cons _ (.cons_cons _ (List.nil_sublist _))))))
  rw [HKk.out]
  clear ho hg hr1 HR H0 HB0 hfar hn3 HP2 HP20 H31
  go_wp2_with fail
  refine (markInt64S_calls base _ x3 _ K H1.out.h3 m3 (by have := HKk.out; omega)).mono ?_
  rintro e w2 ⟨rfl, ho2, hg2⟩
  have H2 := hid (OWS.turn (A := [(.slice a1 x1.length c1, marks k x1.length), (.slice a2 x2.length c2, marks (k + x1.length) x2.length)]) H1.out ho2 hg2)
  have HB2 := hid (HB1.out.trans ((On.of_grown hg2).more (fun j e => ⟨_, List.mem_cons_of_mem _ (List.mem_cons_of_mem _ (List.mem_cons_self ..)), e⟩)))
  clear ho2 hg2 H1 HB1 q4
  go_wp2
  go_ret
  exact ⟨rfl, H2.out, HB2.out⟩
theorem heldFeedResult_calls (c s : Int) (v1 v2 v3 : Value) (n1 n2 n3 : Nat) (w : World) (k : Nat) (h1 : Sl .i64 w v1 (marks k n1)) (h2 : Sl .i64 w v2 (marks (k + n1) n2)) (h3 : Sl .i64 w v3 (marks (k + n1 + n2) n3)) (m1 : n1 ≤ 1048576) (m2 : n2 ≤ 1048576) (m3 : n3 ≤ 1048576) (hk : k ≤ 1000000) :
    Calls Tryd.prog 31 #[.agg #[.int .i64 c, .int .i64 s, v1, v2, v3], .int .i64 k] w fun e w' => e = .returned (.int .i64 ((k + n1 + n2 + n3 : Nat) : Int)) ∧ Below w.heap.size w w' := by
  have hb := bmore (Below.refl _ w) (.cells #[.int .i64 c, .int .i64 s, v1, v2, v3] 41)
  have HR := hid (Blk.new w #[.int .i64 c, .int .i64 s, v1, v2, v3] 41)
  have H1 := hid (h1.later hb)
  have H2 := hid (h2.later hb)
  have H3 := hid (h3.later hb)
  have HB := hid hb
  obtain ⟨a1, c1, rfl, -⟩ := id h1
  obtain ⟨a2, c2, rfl, -⟩ := id h2
  obtain ⟨a3, c3, rfl, -⟩ := id h3
  clear h1 h2 h3 hb
  go_enter Tryd.func31, Tryd.ntmps31
  go_wp2_with fail
  refine (heldLap_calls s _ _ n1 n2 _ k H1.out H2.out m1 m2 (by omega)).mono ?_
  rintro e w1 ⟨rfl, hb1⟩
  have HB1 := hid (bthen HB.out hb1)
  have H31 := hid (H3.out.later hb1)
  obtain ⟨_, _, _, _, q4, _⟩ := (HR.out.later hb1).five
  obtain ⟨K, hK⟩ : ∃ K : Nat, k + n1 + n2 = K := ⟨_, rfl⟩
  have HKk := hid hK
  rw [hK] at H31 ⊢
  rw [hK] at q4
  have hp : ¬ (K : Int) < 0 := by omega
  clear hb1 HB hK H1 H2 H3 HR
  go_wp2_with fail
  refine (heldInt64S_calls _ n3 _ K H31.out m3 (by have := HKk.out; omega)).mono ?_
  rintro e w' ⟨rfl, rfl⟩
  obtain ⟨M, hM⟩ : ∃ M : Nat, K + n3 = M := ⟨_, rfl⟩
  have HM := hid hM
  rw [hM]
  have hp2 : ¬ (M : Int) < 0 := by omega
  clear hM
  go_wp2
  go_ret
  exact ⟨by rw [HKk.out, HM.out]; rfl, HB1.out⟩
theorem eqPlayResult_calls (c s : Int) (v1 v2 v3 u1 u2 u3 : Value) (x1 x2 x3 : List Int) (w : World) (h1 : Sl .i64 w v1 x1) (h2 : Sl .i64 w v2 x2) (h3 : Sl .i64 w v3 x3) (k1 : Sl .i64 w u1 x1) (k2 : Sl .i64 w u2 x2) (k3 : Sl .i64 w u3 x3) (m1 : x1.length ≤ 1048576) (m2 : x2.length ≤ 1048576) (m3 : x3.length ≤ 1048576) :
    Calls Tryd.prog 34 #[.agg #[.int .i64 c, .int .i64 s, v1, v2, v3], .agg #[.int .i64 c, .int .i64 s, u1, u2, u3]] w fun e w' => e = .returned (.bool true) ∧ Below w.heap.size w w' := by
  have hb := bmore (bmore (Below.refl _ w) (.cells #[.int .i64 c, .int .i64 s, v1, v2, v3] 48)) (.cells #[.int .i64 c, .int .i64 s, u1, u2, u3] 48)
  have H1 := hid (h1.later hb)
  have H2 := hid (h2.later hb)
  have H3 := hid (h3.later hb)
  have K1 := hid (k1.later hb)
  have K2 := hid (k2.later hb)
  have K3 := hid (k3.later hb)
  have HB := hid hb
  obtain ⟨a1, c1, rfl, -⟩ := id h1
  obtain ⟨a2, c2, rfl, -⟩ := id h2
  obtain ⟨a3, c3, rfl, -⟩ := id k1
  obtain ⟨a4, c4, rfl, -⟩ := id k2
  obtain ⟨a5, c5, rfl, -⟩ := id h3
  obtain ⟨a6, c6, rfl, -⟩ := id k3
  clear h1 h2 h3 k1 k2 k3 hb
  go_enter Tryd.func34, Tryd.ntmps34
  go_wp2_with fail
  refine (eqSynth_calls s _ _ _ _ x1 x2 _ H1.out H2.out K1.out K2.out m1 m2).mono ?_
  rintro e w1 ⟨rfl, hb1⟩
  have HB1 := hid (bthen HB.out hb1)
  have H31 := hid (H3.out.later hb1)
  have K31 := hid (K3.out.later hb1)
  obtain ⟨hP, hQ, _, _⟩ := boxes2 hb1
  obtain ⟨p0, p1, p2, p3, p4, _⟩ := hP.five
  obtain ⟨q0, q1, q2, q3, q4, _⟩ := hQ.five
  clear hb1 HB hP hQ H1 H2 H3 K1 K2 K3
  go_wp2_with fail
  refine (eqInt64S_calls _ _ x3 _ H31.out K31.out m3).mono ?_
  rintro e w2 ⟨rfl, hb2⟩
  have HB2 := hid (bthen HB1.out hb2)
  clear hb2 HB1 H31 K31
  go_wp2
  go_ret
  exact ⟨rfl, HB2.out⟩
set_option maxHeartbeats 1000000 in
theorem markPlayResult_calls (base : Nat) (c s : Int) (v1 v2 v3 : Value) (x1 x2 x3 : List Int) (w : World) (k : Nat) (h : OWS base w [(v1, x1), (v2, x2), (v3, x3)]) (m1 : x1.length ≤ 1048576) (m2 : x2.length ≤ 1048576) (m3 : x3.length ≤ 1048576) (hk : k ≤ 1000000) :
    Calls Tryd.prog 37 #[.agg #[.int .i64 c, .int .i64 s, v1, v2, v3], .int .i64 k] w fun e w' => e = .returned (.int .i64 ((k + x1.length + x2.length + x3.length : Nat) : Int)) ∧ OWS base w' [(v1, marks k x1.length), (v2, marks (k + x1.length) x2.length), (v3, marks (k + x1.length + x2.length) x3.length)] ∧ On (Ob [v1, v2, v3]) w w' := by
  obtain ⟨a1, c1, rfl, -⟩ := h.h1.sl
  obtain ⟨a2, c2, rfl, -⟩ := h.h2.sl
  obtain ⟨a3, c3, rfl, -⟩ := h.h3.sl
  have hb0 := bmore (Below.refl _ w) (.cells #[.int .i64 c, .int .i64 s, .slice a1 x1.length c1, .slice a2 x2.length c2, .slice a3 x3.length c3] 48)
  have HR := hid (Blk.new w #[.int .i64 c, .int .i64 s, .slice a1 x1.length c1, .slice a2 x2.length c2, .slice a3 x3.length c3] 48)
  have H0 := hid (h.later hb0)
  have HB0 := hid (On.of_below (S := Ob [.slice a1 x1.length c1, .slice a2 x2.length c2, .slice a3 x3.length c3]) hb0)
  have hfar : Hid (∀ j, Ob [.slice a1 x1.length c1, .slice a2 x2.length c2] j → j ≠ w.heap.size) := fun j e => by
    obtain ⟨v, hv, e⟩ := e
    rcases List.mem_cons.1 hv with rfl | hv
    · have := (h.h1.block j e).2; omega
    · rcases List.mem_cons.1 hv with rfl | hv
      · have := (h.h2.block j e).2; omega
      · cases hv
  have hn3 : Hid (∀ j, (Value.slice a3 x3.length c3).ownBlock = some j → ¬ Ob [.slice a1 x1.length c1, .slice a2 x2.length c2] j) := fun j e ⟨v, hv, e2⟩ => by
    have hp := h.ne
    rcases List.mem_cons.1 hv with rfl | hv
    · exact (List.pairwise_cons.1 hp).1 _ (List.mem_cons_of_mem _ (List.mem_cons_self ..)) j e2 e
    · rcases List.mem_cons.1 hv with rfl | hv
      · exact (List.pairwise_cons.1 (List.pairwise_cons.1 hp).2).1 _ (List.mem_cons_self ..) j e2 e
      · cases hv
  have HP2 := hid (h.sub (qs := [(.slice a1 x1.length c1, x1), (.slice a2 x2.length c2, x2)]) (.cons_cons _ (.cons_cons _ (List.nil_sublist _))))
  have HN : Hid (∀ (W : World) (y1 y2 y3 : List Int), OWS base W [(.slice a1 x1.length c1, y1), (.slice a2 x2.length c2, y2)] → OwI base W (.slice a3 x3.length c3) y3 → OWS base W [(.slice a1 x1.length c1, y1), (.slice a2 x2.length c2, y2), (.slice a3 x3.length c3, y3)]) := fun W y1 y2 y3 q1 q2 => OWS.three q1 q2 (fun g e e2 => hn3.out g e2 ⟨_, List.mem_cons_self .., e⟩) (fun g e e2 => hn3.out g e2 ⟨_, List.mem_cons_of_mem _ (List.mem_cons_self ..), e⟩)
  have HP20 := hid (HP2.out.later hb0)
  clear h hb0
  obtain ⟨K, hK⟩ : ∃ K : Nat, k + x1.length + x2.length = K := ⟨_, rfl⟩
  have HKk := hid hK
  rw [hK]
  clear hK
  go_enter Tryd.func37, Tryd.ntmps37
  go_wp2_with fail
  refine (markSynth_calls base s _ _ x1 x2 _ k HP20.out m1 m2 (by omega)).mono ?_
  rintro e w1 ⟨rfl, ho, hg⟩
  have hr1 := hg.blk HR.out (fun e => hfar.out _ e rfl)
  obtain ⟨_, _, _, _, q4, _⟩ := hr1.five
  have H31 := hid (hg.ow H0.out.h3 hn3.out)
  have H1 := hid (HN.out _ _ _ _ ho H31.out)
  have HB1 := hid (HB0.out.trans (hg.more (fun _ e => e.sub (.cons_cons _ (.cons_cons _ (List.nil_sublist _))))))
  rw [HKk.out]
  clear ho hg hr1 HR H0 HB0 hfar hn3 HP2 HP20 H31
  go_wp2_with fail
  refine (markInt64S_calls base _ x3 _ K H1.out.h3 m3 (by have := HKk.out; omega)).mono ?_
  rintro e w2 ⟨rfl, ho2, hg2⟩
  have H2 := hid (OWS.turn (A := [(.slice a1 x1.length c1, marks k x1.length), (.slice a2 x2.length c2, marks (k + x1.length) x2.length)]) H1.out ho2 hg2)
  have HB2 := hid (HB1.out.trans ((On.of_grown hg2).more (fun j e => ⟨_, List.mem_cons_of_mem _ (List.mem_cons_of_mem _ (List.mem_cons_self ..)), e⟩)))
  clear ho2 hg2 H1 HB1 q4
  go_wp2
  go_ret
  exact ⟨rfl, H2.out, HB2.out⟩
theorem heldPlayResult_calls (c s : Int) (v1 v2 v3 : Value) (n1 n2 n3 : Nat) (w : World) (k : Nat) (h1 : Sl .i64 w v1 (marks k n1)) (h2 : Sl .i64 w v2 (marks (k + n1) n2)) (h3 : Sl .i64 w v3 (marks (k + n1 + n2) n3)) (m1 : n1 ≤ 1048576) (m2 : n2 ≤ 1048576) (m3 : n3 ≤ 1048576) (hk : k ≤ 1000000) :
    Calls Tryd.prog 38 #[.agg #[.int .i64 c, .int .i64 s, v1, v2, v3], .int .i64 k] w fun e w' => e = .returned (.int .i64 ((k + n1 + n2 + n3 : Nat) : Int)) ∧ Below w.heap.size w w' := by
  have hb := bmore (Below.refl _ w) (.cells #[.int .i64 c, .int .i64 s, v1, v2, v3] 48)
  have HR := hid (Blk.new w #[.int .i64 c, .int .i64 s, v1, v2, v3] 48)
  have H1 := hid (h1.later hb)
  have H2 := hid (h2.later hb)
  have H3 := hid (h3.later hb)
  have HB := hid hb
  obtain ⟨a1, c1, rfl, -⟩ := id h1
  obtain ⟨a2, c2, rfl, -⟩ := id h2
  obtain ⟨a3, c3, rfl, -⟩ := id h3
  clear h1 h2 h3 hb
  go_enter Tryd.func38, Tryd.ntmps38
  go_wp2_with fail
  refine (heldSynth_calls s _ _ n1 n2 _ k H1.out H2.out m1 m2 (by omega)).mono ?_
  rintro e w1 ⟨rfl, hb1⟩
  have HB1 := hid (bthen HB.out hb1)
  have H31 := hid (H3.out.later hb1)
  obtain ⟨_, _, _, _, q4, _⟩ := (HR.out.later hb1).five
  obtain ⟨K, hK⟩ : ∃ K : Nat, k + n1 + n2 = K := ⟨_, rfl⟩
  have HKk := hid hK
  rw [hK] at H31 ⊢
  rw [hK] at q4
  have hp : ¬ (K : Int) < 0 := by omega
  clear hb1 HB hK H1 H2 H3 HR
  go_wp2_with fail
  refine (heldInt64S_calls _ n3 _ K H31.out m3 (by have := HKk.out; omega)).mono ?_
  rintro e w' ⟨rfl, rfl⟩
  obtain ⟨M, hM⟩ : ∃ M : Nat, K + n3 = M := ⟨_, rfl⟩
  have HM := hid hM
  rw [hM]
  have hp2 : ¬ (M : Int) < 0 := by omega
  clear hM
  go_wp2
  go_ret
  exact ⟨by rw [HKk.out, HM.out]; rfl, HB1.out⟩
end Go.Proofs.YtobmngoodjmdaaaDoor.LapZ
