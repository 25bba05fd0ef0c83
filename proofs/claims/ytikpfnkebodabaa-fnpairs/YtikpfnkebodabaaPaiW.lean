/- The walk through FnPairs. Condition: the program's contracts of SplitIndex, JoinIndex, SideIndex, SpreadOf, wherever nothing that was there before has turned. -/
import Derived.Test.YtikpfnkebodabaaPaiC
import Derived.Test.YtikpfnkebodabaaPaiD
import Derived.Test.YtikpfnkebodabaaBlk
import Derived.Deep.RegionHeld3
import Derived.Deep.DrawnRows
import Derived.Deep.DeepCutAuto
namespace Go.Proofs.Ytikpfnkebodabaa.PaiW
open Go.ChangeShapes Go.WideShapes Go.ChangeAt Go.RowKit Go.Proofs.Ytikpfnkebodabaa.Num Go.Proofs.Ytikpfnkebodabaa.Sli Go.Proofs.Ytikpfnkebodabaa.Div Go.Proofs.Ytikpfnkebodabaa.Blk Go.Proofs.Ytikpfnkebodabaa.HalM Go.Proofs.Ytikpfnkebodabaa.PaiM Go.Proofs.Ytikpfnkebodabaa.PaiS Go.Proofs.Ytikpfnkebodabaa.PaiC Go.Proofs.Ytikpfnkebodabaa.PaiD

theorem fieldI0 (c a : Value) (w : World) : (Instr.field 32 (.agg #[c, a]) 0).run Try.prog w = .ok c w := by kernel_rfl
theorem fieldI1 (c a : Value) (w : World) : (Instr.field 32 (.agg #[c, a]) 1).run Try.prog w = .ok a w := by kernel_rfl
theorem fieldP0 (c a b : Value) (w : World) : (Instr.field 27 (.agg #[c, a, b]) 0).run Try.prog w = .ok c w := by kernel_rfl
attribute [local go_sem] fieldI0 fieldI1 fieldP0
theorem lwAbs_calls (v : Int) (w : World) (h1 : -4611686018427387904 ≤ v) (h2 : v ≤ 4611686018427387904) :
    Calls Try.prog 17 #[.int .i64 v] w fun e w' => e = .returned (.int .i64 (absV v)) ∧ w' = w := by
  by_cases hm : v < 0
  · have H : Hid (absV v = -v) := if_pos hm
    go_enter Try.func17, Try.ntmps17
    go_wp2
    go_ret
    exact ⟨ret_int H.out.symm, rfl⟩
  · have H : Hid (absV v = v) := if_neg hm
    go_enter Try.func17, Try.ntmps17
    go_wp2
    go_ret
    exact ⟨ret_int H.out.symm, rfl⟩
/-- Two answers. -/
structure P2 (w : World) (P J : Nat) (pc pa pb jc jv : Int) (W : World) : Prop where
  p : Blk W P #[.int .i64 pc, .int .i64 pa, .int .i64 pb] 27
  j : Blk W J #[.int .i64 jc, .int .i64 jv] 32
  b : Below w.heap.size w W
theorem P2.later {w W W' : World} {P J : Nat} {pc pa pb jc jv : Int} (k : P2 w P J pc pa pb jc jv W) (hb : Below W.heap.size W W') : P2 w P J pc pa pb jc jv W' := ⟨k.p.later hb, k.j.later hb, bthen k.b hb⟩
set_option maxRecDepth 100000 in
set_option maxHeartbeats 4000000 in
theorem fnPairs_calls (a0 : Option Addr) (cap : Nat) (bs : List Int) (w : World) (hsl : Sl .u8 w (.slice a0 bs.length cap) bs) (hbd : ∀ x ∈ bs, 0 ≤ x ∧ x ≤ 255)
    (hS : ∀ q k t W, Below w.heap.size w W → Calls Try.prog 11 #[.int .i64 q, .int .i64 k, .bool t] W fun e w' => e = .returned (.agg #[.int .i64 (siC q k), .int .i64 (siA q k t), .int .i64 (siB q k t)]) ∧ Below W.heap.size W w')
    (hJ : ∀ a b k t W, Below w.heap.size w W → Calls Try.prog 13 #[.int .i64 a, .int .i64 b, .int .i64 k, .bool t] W fun e w' => e = .returned (.agg #[.int .i64 (joC a b k t), .int .i64 (joV a b k t)]) ∧ Below W.heap.size W w')
    (hX : ∀ s v k t W, Below w.heap.size w W → Calls Try.prog 16 #[.int .i64 s, .int .i64 v, .int .i64 k, .bool t] W fun e w' => e = .returned (.agg #[.int .i64 (xiC s v k), .int .i64 (xiV s v k)]) ∧ Below W.heap.size W w')
    (hO : ∀ s k t W, Below w.heap.size w W → Calls Try.prog 18 #[.int .i64 s, .int .i64 k, .bool t] W fun e w' => e = .returned (.agg #[.int .i64 (soC s k), .int .i64 (soV s k t)]) ∧ Below W.heap.size W w') :
    Calls Try.prog 3 #[.slice a0 bs.length cap] w fun e w' => e = .returned (.bool true) ∧ Below w.heap.size w w' := by
  by_cases hbig : 1048576 < bs.length
  · have hb' : (1048576 : Int) < bs.length := by omega
    clear hsl hbd hS hJ hX hO
    go_enter Try.func3, Try.ntmps3
    go_wp2
    go_ret
    exact ⟨rfl, Below.refl _ _⟩
  · have hb' : (bs.length : Int) ≤ 1048576 := by omega
    have H1 := hid (drawSplitIndex_calls a0 cap bs w hsl hbd (by omega))
    have H2 := hid (fun W (hb : Below w.heap.size w W) => drawJoinIndex_calls a0 cap bs W (hsl.later hb) hbd (by omega))
    have HS := hid hS
    have HJ := hid hJ
    have HX := hid hX
    have HO := hid hO
    clear hsl hbd hS hJ hX hO
    go_enter Try.func3, Try.ntmps3
    go_wp2_with (first | (go_at_call 9; go_in) | fail)
    refine H1.out.mono ?_
    rintro e w1 ⟨q, k, t, rfl, _, hb1⟩
    have HB1 := hid hb1
    clear hb1 H1
    go_wp2_with fail
    refine (HS.out q k t _ HB1.out).mono ?_
    rintro e w2 ⟨rfl, hb2⟩
    have hbq := bmore hb2 (.cells #[.int .i64 (siC q k), .int .i64 (siA q k t), .int .i64 (siB q k t)] 27)
    have HB2 := hid (bthen HB1.out hbq)
    have HK2 := hid (Blk.new w2 #[.int .i64 (siC q k), .int .i64 (siA q k t), .int .i64 (siB q k t)] 27)
    clear hb2 hbq HB1
    go_wp2_with fail
    refine (H2.out _ HB2.out).mono ?_
    rintro e w3 ⟨a, b, m, o, rfl, hb3⟩
    have HB3 := hid (bthen HB2.out hb3)
    have HK3 := hid (HK2.out.later hb3)
    clear hb3 HB2 HK2 H2
    go_wp2_with fail
    refine (HJ.out a b m o _ HB3.out).mono ?_
    rintro e w4 ⟨rfl, hb4⟩
    have hbq := bmore hb4 (.cells #[.int .i64 (joC a b m o), .int .i64 (joV a b m o)] 32)
    have HK : Hid (P2 w w2.heap.size w4.heap.size (siC q k) (siA q k t) (siB q k t) (joC a b m o) (joV a b m o) (w4.alloc (.cells #[.int .i64 (joC a b m o), .int .i64 (joV a b m o)] 32))) := ⟨HK3.out.later hbq, Blk.new w4 _ _, bthen HB3.out hbq⟩
    clear hb4 hbq HB3 HK3
    go_wp2_with fail
    generalize w4.alloc (.cells #[.int .i64 (joC a b m o), .int .i64 (joV a b m o)] 32) = w5 at *
    generalize w2.heap.size = P at *
    generalize w4.heap.size = J at *
    have HSp := hid (fun W => specSplitIndex_calls q k t W)
    have HSj := hid (fun W => specJoinIndex_calls a b m o W)
    have HLj := hid (@jo_law a b m o)
    have HLp := hid (@pairs_law q k t)
    generalize hpc : siC q k = pc at *
    generalize hpa : siA q k t = pa at *
    generalize hpb : siB q k t = pb at *
    generalize hjc : joC a b m o = jc at *
    generalize hjv : joV a b m o = jv at *
    have Hpc := hid hpc
    clear hpc hpa hpb hjc hjv
    have hKd0 := HK.out.later (Below.refl _ _).drew
    refine wp_region_noPanic ?_
    refine wp_region_held_drew (S := fun W => P2 w P J pc pa pb jc jv W) (by kernel_rfl) ?_ (fun hHeld => ?_)
    · first | exact hK2 | exact hK1 | exact hHeld | exact hKd0
    (refine wpAnyH_take (i := 0) (v := ?_) rfl (by kernel_rfl) (by kernel_rfl) (by kernel_rfl) (fun _ _ _ h => h) (Or.inl ⟨by rfl, ?_⟩) hHeld ?_; rotate_left; (intro w hSw; (obtain ⟨m0, m1, _⟩ := hSw.p.three; obtain ⟨n0, n1, _⟩ := hSw.j.two; clear hSw); (go_simp <;> with_reducible rfl)); simp only [List.getElem_toArray, List.getElem_cons_zero, Act.put, List.setIfInBounds_toArray, List.set_cons_zero, List.set_cons_succ])
    (refine wpAnyH_take (i := 1) (v := ?_) rfl (by kernel_rfl) (by kernel_rfl) (by kernel_rfl) (fun _ _ _ h => h) (Or.inl ⟨by rfl, ?_⟩) hHeld ?_; rotate_left; (intro w hSw; (obtain ⟨m0, m1, _⟩ := hSw.p.three; obtain ⟨n0, n1, _⟩ := hSw.j.two; clear hSw); (go_simp <;> with_reducible rfl)); simp only [List.getElem_toArray, List.getElem_cons_zero, List.getElem_cons_succ, Act.put, List.setIfInBounds_toArray, List.set_cons_zero, List.set_cons_succ])
    (refine wpAnyH_take (i := 2) (v := ?_) rfl (by kernel_rfl) (by kernel_rfl) (by kernel_rfl) (fun _ _ _ h => h) (Or.inl ⟨by rfl, ?_⟩) hHeld ?_; rotate_left; (intro w hSw; (obtain ⟨m0, m1, _⟩ := hSw.p.three; obtain ⟨n0, n1, _⟩ := hSw.j.two; clear hSw); (go_simp <;> with_reducible rfl)); simp only [List.getElem_toArray, List.getElem_cons_zero, List.getElem_cons_succ, Act.put, List.setIfInBounds_toArray, List.set_cons_zero, List.set_cons_succ])
    (refine wpAnyH_take (i := 3) (v := ?_) rfl (by kernel_rfl) (by kernel_rfl) (by kernel_rfl) (fun _ _ _ h => h) (Or.inl ⟨by rfl, ?_⟩) hHeld ?_; rotate_left; (intro w hSw; (obtain ⟨m0, m1, _⟩ := hSw.p.three; obtain ⟨n0, n1, _⟩ := hSw.j.two; clear hSw); (go_simp <;> with_reducible rfl)); simp only [List.getElem_toArray, List.getElem_cons_zero, List.getElem_cons_succ, Act.put, List.setIfInBounds_toArray, List.set_cons_zero, List.set_cons_succ])
    (refine wpAnyH_take (i := 4) (v := ?_) rfl (by kernel_rfl) (by kernel_rfl) (by kernel_rfl) (fun _ _ _ h => h) (Or.inl ⟨by rfl, ?_⟩) hHeld ?_; rotate_left; (intro w hSw; (obtain ⟨m0, m1, _⟩ := hSw.p.three; obtain ⟨n0, n1, _⟩ := hSw.j.two; clear hSw); (go_simp <;> with_reducible rfl)); simp only [List.getElem_toArray, List.getElem_cons_zero, List.getElem_cons_succ, Act.put, List.setIfInBounds_toArray, List.set_cons_zero, List.set_cons_succ])
    (refine wpAnyH_ready (rs := [5]) (by kernel_rfl) (by simp) ?_; refine AllReadyH.cons rfl (fun K hK => ?_) AllReadyH.nil; go_simp; (refine (HSp.out _).mono ?_; rintro e w9 ⟨rfl, hb9⟩; have hK1 := hHeld.later hb9); refine hK.out _ _ ?_ (fun hHeld => ?_); (first | exact hK2 | exact hK1 | exact hHeld | exact hKd0); clear hK K; try dsimp only)
    (refine wpAnyH_take (i := 6) (v := ?_) rfl (by kernel_rfl) (by kernel_rfl) (by kernel_rfl) (fun _ _ _ h => h) (Or.inl ⟨by rfl, ?_⟩) hHeld ?_; rotate_left; (intro w hSw; (obtain ⟨m0, m1, _⟩ := hSw.p.three; obtain ⟨n0, n1, _⟩ := hSw.j.two; clear hSw); (go_simp <;> with_reducible rfl)); simp only [List.getElem_toArray, List.getElem_cons_zero, List.getElem_cons_succ, Act.put, List.setIfInBounds_toArray, List.set_cons_zero, List.set_cons_succ])
    (refine wpAnyH_take (i := 7) (v := ?_) rfl (by kernel_rfl) (by kernel_rfl) (by kernel_rfl) (fun _ _ _ h => h) (Or.inl ⟨by rfl, ?_⟩) hHeld ?_; rotate_left; (intro w hSw; (obtain ⟨m0, m1, _⟩ := hSw.p.three; obtain ⟨n0, n1, _⟩ := hSw.j.two; clear hSw); (go_simp <;> with_reducible rfl)); simp only [List.getElem_toArray, List.getElem_cons_zero, List.getElem_cons_succ, Act.put, List.setIfInBounds_toArray, List.set_cons_zero, List.set_cons_succ])
    (refine wpAnyH_take (i := 8) (v := ?_) rfl (by kernel_rfl) (by kernel_rfl) (by kernel_rfl) (fun _ _ _ h => h) (Or.inl ⟨by rfl, ?_⟩) hHeld ?_; rotate_left; (intro w hSw; (obtain ⟨m0, m1, _⟩ := hSw.p.three; obtain ⟨n0, n1, _⟩ := hSw.j.two; clear hSw); (go_simp <;> with_reducible rfl)); simp only [List.getElem_toArray, List.getElem_cons_zero, List.getElem_cons_succ, Act.put, List.setIfInBounds_toArray, List.set_cons_zero, List.set_cons_succ])
    first | (refine wpAnyH_take (i := 9) (v := ?_) rfl (by kernel_rfl) (by kernel_rfl) (by kernel_rfl) (fun _ _ _ h => h) (Or.inl ⟨by rfl, ?_⟩) hHeld ?_; rotate_left; (intro w hSw; (obtain ⟨m0, m1, _⟩ := hSw.p.three; obtain ⟨n0, n1, _⟩ := hSw.j.two; clear hSw); (go_simp <;> with_reducible rfl)); simp only [List.getElem_toArray, List.getElem_cons_zero, List.getElem_cons_succ, Act.put, List.setIfInBounds_toArray, List.set_cons_zero, List.set_cons_succ]) | (refine wpAnyH_take (i := 9) (v := undef) rfl (by kernel_rfl) (by kernel_rfl) (by kernel_rfl) (fun _ _ _ h => h) (Or.inr ⟨by rfl, rfl⟩) hHeld ?_; simp only [List.getElem_toArray, List.getElem_cons_zero, List.getElem_cons_succ, Act.put, List.setIfInBounds_toArray, List.set_cons_zero, List.set_cons_succ])
    first | (refine wpAnyH_take (i := 10) (v := ?_) rfl (by kernel_rfl) (by kernel_rfl) (by kernel_rfl) (fun _ _ _ h => h) (Or.inl ⟨by rfl, ?_⟩) hHeld ?_; rotate_left; (intro w hSw; (obtain ⟨m0, m1, _⟩ := hSw.p.three; obtain ⟨n0, n1, _⟩ := hSw.j.two; clear hSw); (go_simp <;> with_reducible rfl)); simp only [List.getElem_toArray, List.getElem_cons_zero, List.getElem_cons_succ, Act.put, List.setIfInBounds_toArray, List.set_cons_zero, List.set_cons_succ]) | (refine wpAnyH_take (i := 10) (v := undef) rfl (by kernel_rfl) (by kernel_rfl) (by kernel_rfl) (fun _ _ _ h => h) (Or.inr ⟨by rfl, rfl⟩) hHeld ?_; simp only [List.getElem_toArray, List.getElem_cons_zero, List.getElem_cons_succ, Act.put, List.setIfInBounds_toArray, List.set_cons_zero, List.set_cons_succ])
    first | (refine wpAnyH_take (i := 11) (v := ?_) rfl (by kernel_rfl) (by kernel_rfl) (by kernel_rfl) (fun _ _ _ h => h) (Or.inl ⟨by rfl, ?_⟩) hHeld ?_; rotate_left; (intro w hSw; (obtain ⟨m0, m1, _⟩ := hSw.p.three; obtain ⟨n0, n1, _⟩ := hSw.j.two; clear hSw); (go_simp <;> with_reducible rfl)); simp only [List.getElem_toArray, List.getElem_cons_zero, List.getElem_cons_succ, Act.put, List.setIfInBounds_toArray, List.set_cons_zero, List.set_cons_succ]) | (refine wpAnyH_take (i := 11) (v := undef) rfl (by kernel_rfl) (by kernel_rfl) (by kernel_rfl) (fun _ _ _ h => h) (Or.inr ⟨by rfl, rfl⟩) hHeld ?_; simp only [List.getElem_toArray, List.getElem_cons_zero, List.getElem_cons_succ, Act.put, List.setIfInBounds_toArray, List.set_cons_zero, List.set_cons_succ])
    first | (refine wpAnyH_take (i := 12) (v := ?_) rfl (by kernel_rfl) (by kernel_rfl) (by kernel_rfl) (fun _ _ _ h => h) (Or.inl ⟨by rfl, ?_⟩) hHeld ?_; rotate_left; (intro w hSw; (obtain ⟨m0, m1, _⟩ := hSw.p.three; obtain ⟨n0, n1, _⟩ := hSw.j.two; clear hSw); (go_simp <;> with_reducible rfl)); simp only [List.getElem_toArray, List.getElem_cons_zero, List.getElem_cons_succ, Act.put, List.setIfInBounds_toArray, List.set_cons_zero, List.set_cons_succ]) | (refine wpAnyH_take (i := 12) (v := undef) rfl (by kernel_rfl) (by kernel_rfl) (by kernel_rfl) (fun _ _ _ h => h) (Or.inr ⟨by rfl, rfl⟩) hHeld ?_; simp only [List.getElem_toArray, List.getElem_cons_zero, List.getElem_cons_succ, Act.put, List.setIfInBounds_toArray, List.set_cons_zero, List.set_cons_succ])
    first | (refine wpAnyH_take (i := 13) (v := ?_) rfl (by kernel_rfl) (by kernel_rfl) (by kernel_rfl) (fun _ _ _ h => h) (Or.inl ⟨by rfl, ?_⟩) hHeld ?_; rotate_left; (intro w hSw; (obtain ⟨m0, m1, _⟩ := hSw.p.three; obtain ⟨n0, n1, _⟩ := hSw.j.two; clear hSw); (go_simp <;> with_reducible rfl)); simp only [List.getElem_toArray, List.getElem_cons_zero, List.getElem_cons_succ, Act.put, List.setIfInBounds_toArray, List.set_cons_zero, List.set_cons_succ]) | (refine wpAnyH_take (i := 13) (v := undef) rfl (by kernel_rfl) (by kernel_rfl) (by kernel_rfl) (fun _ _ _ h => h) (Or.inr ⟨by rfl, rfl⟩) hHeld ?_; simp only [List.getElem_toArray, List.getElem_cons_zero, List.getElem_cons_succ, Act.put, List.setIfInBounds_toArray, List.set_cons_zero, List.set_cons_succ])
    first | (refine wpAnyH_take (i := 14) (v := ?_) rfl (by kernel_rfl) (by kernel_rfl) (by kernel_rfl) (fun _ _ _ h => h) (Or.inl ⟨by rfl, ?_⟩) hHeld ?_; rotate_left; (intro w hSw; (obtain ⟨m0, m1, _⟩ := hSw.p.three; obtain ⟨n0, n1, _⟩ := hSw.j.two; clear hSw); (go_simp <;> with_reducible rfl)); simp only [List.getElem_toArray, List.getElem_cons_zero, List.getElem_cons_succ, Act.put, List.setIfInBounds_toArray, List.set_cons_zero, List.set_cons_succ]) | (refine wpAnyH_take (i := 14) (v := undef) rfl (by kernel_rfl) (by kernel_rfl) (by kernel_rfl) (fun _ _ _ h => h) (Or.inr ⟨by rfl, rfl⟩) hHeld ?_; simp only [List.getElem_toArray, List.getElem_cons_zero, List.getElem_cons_succ, Act.put, List.setIfInBounds_toArray, List.set_cons_zero, List.set_cons_succ])
    first | (refine wpAnyH_take (i := 15) (v := undef) rfl (by kernel_rfl) (by kernel_rfl) (by kernel_rfl) (fun _ _ _ h => h) (Or.inr ⟨by rfl, rfl⟩) hHeld ?_; simp only [List.getElem_toArray, List.getElem_cons_zero, List.getElem_cons_succ, Act.put, List.setIfInBounds_toArray, List.set_cons_zero, List.set_cons_succ]) | (refine wpAnyH_ready (rs := [15]) (by kernel_rfl) (by simp) ?_; refine AllReadyH.cons rfl (fun K hK => ?_) AllReadyH.nil; go_simp; (refine (HSj.out _).mono ?_; rintro e w10 ⟨rfl, hb10⟩; have hK2 := hHeld.later hb10); refine hK.out _ _ ?_ (fun hHeld => ?_); (first | exact hK2 | exact hK1 | exact hHeld | exact hKd0); clear hK K; try dsimp only)
    first | (refine wpAnyH_take (i := 16) (v := ?_) rfl (by kernel_rfl) (by kernel_rfl) (by kernel_rfl) (fun _ _ _ h => h) (Or.inl ⟨by rfl, ?_⟩) hHeld ?_; rotate_left; (intro w hSw; (obtain ⟨m0, m1, _⟩ := hSw.p.three; obtain ⟨n0, n1, _⟩ := hSw.j.two; clear hSw); (go_simp <;> with_reducible rfl)); simp only [List.getElem_toArray, List.getElem_cons_zero, List.getElem_cons_succ, Act.put, List.setIfInBounds_toArray, List.set_cons_zero, List.set_cons_succ]) | (refine wpAnyH_take (i := 16) (v := undef) rfl (by kernel_rfl) (by kernel_rfl) (by kernel_rfl) (fun _ _ _ h => h) (Or.inr ⟨by rfl, rfl⟩) hHeld ?_; simp only [List.getElem_toArray, List.getElem_cons_zero, List.getElem_cons_succ, Act.put, List.setIfInBounds_toArray, List.set_cons_zero, List.set_cons_succ])
    first | (refine wpAnyH_take (i := 17) (v := ?_) rfl (by kernel_rfl) (by kernel_rfl) (by kernel_rfl) (fun _ _ _ h => h) (Or.inl ⟨by rfl, ?_⟩) hHeld ?_; rotate_left; (intro w hSw; (obtain ⟨m0, m1, _⟩ := hSw.p.three; obtain ⟨n0, n1, _⟩ := hSw.j.two; clear hSw); (go_simp <;> with_reducible rfl)); simp only [List.getElem_toArray, List.getElem_cons_zero, List.getElem_cons_succ, Act.put, List.setIfInBounds_toArray, List.set_cons_zero, List.set_cons_succ]) | (refine wpAnyH_take (i := 17) (v := undef) rfl (by kernel_rfl) (by kernel_rfl) (by kernel_rfl) (fun _ _ _ h => h) (Or.inr ⟨by rfl, rfl⟩) hHeld ?_; simp only [List.getElem_toArray, List.getElem_cons_zero, List.getElem_cons_succ, Act.put, List.setIfInBounds_toArray, List.set_cons_zero, List.set_cons_succ])
    (refine wpAnyH_take (i := 18) (v := ?_) rfl (by kernel_rfl) (by kernel_rfl) (by kernel_rfl) (fun _ _ _ h => h) (Or.inl ⟨by rfl, ?_⟩) hHeld ?_; rotate_left; (intro w hSw; (obtain ⟨m0, m1, _⟩ := hSw.p.three; obtain ⟨n0, n1, _⟩ := hSw.j.two; clear hSw); (go_simp <;> with_reducible rfl)); simp only [List.getElem_toArray, List.getElem_cons_zero, List.getElem_cons_succ, Act.put, List.setIfInBounds_toArray, List.set_cons_zero, List.set_cons_succ])
    refine wpAnyH_done (by kernel_rfl) ?_ _
    refine NoPanic.normal ?_
    have HK9 := hid hHeld
    clear hHeld HK hKd0 HSp HSj
    go_upto_region 9 with fail
    go_cut [72] from 59 to 72 (fun t wc => t = .bool false ∧ Hid (P2 w P J pc pa pb jc jv wc))
    case first =>
      obtain ⟨n0, n1, _⟩ := HK9.out.j.two
      by_cases hz : jc = 0
      · subst hz
        obtain ⟨e1, e2, e3⟩ := HLj.out rfl
        have HSx := hid (HS.out jv m o _ HK9.out.b)
        rw [e1, e2, e3] at HSx
        clear HLj HLp Hpc HS HJ HX HO e1 e2 e3
        go_wp2_with fail
        refine HSx.out.mono ?_
        rintro e w6 ⟨rfl, hb6⟩
        have HK6 := hid (HK9.out.later hb6)
        clear hb6 HSx n0 n1 HK9
        go_wp2
        go_meet
        case rel => exact ⟨rfl, HK6.out⟩
      · clear HLj HLp Hpc HS HJ HX HO
        go_wp2
        go_meet
        case rel => exact ⟨rfl, HK9.out⟩
    case rest =>
      obtain ⟨rfl, HKc⟩ := hcut
      obtain ⟨m0, m1, m2, _⟩ := HKc.out.p.three
      clear HK9 HLj
      by_cases hz : pc = 0
      · subst hz
        obtain ⟨l1, l2, l3, l4, l5, l6, l7⟩ := HLp.out rfl
        have HXa := hid (fun W (hb : Below w.heap.size w W) => HX.out 0 pa k t W hb)
        have HXb := hid (fun W (hb : Below w.heap.size w W) => HX.out 1 pb k t W hb)
        have HJp := hid (fun W (hb : Below w.heap.size w W) => HJ.out pa pb k t W hb)
        have HSn := hid (fun W (hb : Below w.heap.size w W) => HS.out q k (!t) W hb)
        have HO0 := hid (fun W (hb : Below w.heap.size w W) => HO.out 0 k t W hb)
        have HO1 := hid (fun W (hb : Below w.heap.size w W) => HO.out 1 k t W hb)
        have hx0 := @xi_small 0 pa k
        have hx1 := @xi_small 1 pb k
        have hqb := of_inB (show inB (-30000) 30000 q = true from by have := si_yes Hpc.out; unfold siO at this; simp at this; exact this.2)
        have HA0 := hid (fun W => lwAbs_calls (xiV 0 pa k - q) W (by omega) (by omega))
        have HA1 := hid (fun W => lwAbs_calls (xiV 1 pb k - q) W (by omega) (by omega))
        have k0 : IntKind.i64.wrap (xiV 0 pa k - q) = xiV 0 pa k - q := wrapk_of (by omega) (by omega)
        have k1 : IntKind.i64.wrap (xiV 1 pb k - q) = xiV 1 pb k - q := wrapk_of (by omega) (by omega)
        rw [l1, l2] at HJp
        rw [l3, l4] at HSn
        clear HLp HS HJ HX HO l1 l2 l3 l4
        generalize xiC 0 pa k = xc at *
        generalize xiV 0 pa k = xv at *
        generalize xiC 1 pb k = yc at *
        generalize xiV 1 pb k = yv at *
        generalize soC 0 k = oc at *
        generalize soC 1 k = pc1 at *
        generalize soV 0 k t = ov at *
        generalize soV 1 k t = pv at *
        generalize siC q k = sc at *
        have hsc : sc = 0 := Hpc.out
        subst hsc
        generalize absV (xv - q) = d0 at *
        generalize absV (yv - q) = d1 at *
        go_wp2_with fail
        refine (HXa.out _ HKc.out.b).mono ?_
        rintro e w6 ⟨rfl, hb6⟩
        have hbq := bmore hb6 (.cells #[.int .i64 xc, .int .i64 xv] 32)
        have HB7 := hid (bthen HKc.out.b hbq)
        have HP7 := hid (HKc.out.p.later hbq)
        have HX7 := hid (Blk.new w6 #[.int .i64 xc, .int .i64 xv] 32)
        obtain ⟨m0, m1, m2, _⟩ := HP7.out.three
        clear hb6 hbq HXa HKc
        go_wp2_with fail
        refine (HXb.out _ HB7.out).mono ?_
        rintro e w8 ⟨rfl, hb8⟩
        have hbq := bmore hb8 (.cells #[.int .i64 yc, .int .i64 yv] 32)
        have HB9 := hid (bthen HB7.out hbq)
        have HP9 := hid (HP7.out.later hbq)
        have HX9 := hid (HX7.out.later hbq)
        have HY9 := hid (Blk.new w8 #[.int .i64 yc, .int .i64 yv] 32)
        clear m0 m1 m2
        obtain ⟨m0, m1, m2, _⟩ := HP9.out.three
        generalize w6.heap.size = Xb at *
        clear hb8 hbq HXb HB7 HP7 HX7
        go_wp2_with fail
        refine (HJp.out _ HB9.out).mono ?_
        rintro e w10 ⟨rfl, hb10⟩
        have hbq := bmore hb10 (.cells #[.int .i64 0, .int .i64 q] 32)
        have HB11 := hid (bthen HB9.out hbq)
        have HP11 := hid (HP9.out.later hbq)
        have HX11 := hid (HX9.out.later hbq)
        have HY11 := hid (HY9.out.later hbq)
        have HJ11 := hid (Blk.new w10 #[.int .i64 0, .int .i64 q] 32)
        generalize w8.heap.size = Yb at *
        clear hb10 hbq HJp HB9 HP9 HX9 HY9 m0 m1 m2
        go_wp2_with fail
        refine (HSn.out _ HB11.out).mono ?_
        rintro e w12 ⟨rfl, hb12⟩
        have hbq := bmore hb12 (.cells #[.int .i64 0, .int .i64 pb, .int .i64 pa] 27)
        have HB13 := hid (bthen HB11.out hbq)
        have HP13 := hid (HP11.out.later hbq)
        have HX13 := hid (HX11.out.later hbq)
        have HY13 := hid (HY11.out.later hbq)
        have HJ13 := hid (HJ11.out.later hbq)
        have HS13 := hid (Blk.new w12 #[.int .i64 0, .int .i64 pb, .int .i64 pa] 27)
        generalize w10.heap.size = Jb at *
        obtain ⟨m0, m1, m2, _⟩ := HP13.out.three
        obtain ⟨s0, s1, s2, _⟩ := HS13.out.three
        obtain ⟨j0, j1, _⟩ := HJ13.out.two
        obtain ⟨x0, x1, _⟩ := HX13.out.two
        clear hb12 hbq HSn HB11 HP11 HX11 HJ11 HY11
        go_wp2_with (first | (go_at_call 17; refine (HA0.out _).mono ?_; rintro e w' ⟨rfl, rfl⟩) | fail)
        refine (HO0.out _ HB13.out).mono ?_
        rintro e w14 ⟨rfl, hb14⟩
        have HB14 := hid (bthen HB13.out hb14)
        obtain ⟨y0, y1, _⟩ := (HY13.out.later hb14).two
        clear hb14 HB13 HP13 HX13 HY13 HJ13 HS13 m0 m1 m2 s0 s1 s2 j0 j1 x0 x1
        have g5 : decide (d0 ≤ ov) = true := decide_eq_true l5
        have g6 : decide (d1 ≤ pv) = true := decide_eq_true l6
        have g7 : decide (ov ≤ k) = true := decide_eq_true l7
        go_wp2_with (first | (go_at_call 17; refine (HA1.out _).mono ?_; rintro e w' ⟨rfl, rfl⟩) | fail)
        refine (HO1.out _ HB14.out).mono ?_
        rintro e w15 ⟨rfl, hb15⟩
        have HB15 := hid (bthen HB14.out hb15)
        clear hb15 HB14 y0 y1
        go_wp2_with fail
        refine (HO0.out _ HB15.out).mono ?_
        rintro e w16 ⟨rfl, hb16⟩
        have HB16 := hid (bthen HB15.out hb16)
        clear hb16 HB15
        go_wp2
        go_ret
        exact ⟨rfl, HB16.out⟩
      · clear HLp HS HJ HX HO
        have HBz := hid HKc.out.b
        clear HKc
        go_wp2
        go_ret
        exact ⟨rfl, HBz.out⟩
end Go.Proofs.Ytikpfnkebodabaa.PaiW
