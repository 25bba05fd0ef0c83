/- The walk through FnPairBounds. Condition: the table holds what its own text lays. -/
import Derived.Test.YtbakmphopgkpmaaDoorTurP
import Derived.Test.YtbakmphopgkpmaaDoorMixP
import Derived.Test.YtbakmphopgkpmaaDoorBndS
import Derived.Test.YtbakmphopgkpmaaDoorDrwR
import Derived.Test.YtbakmphopgkpmaaDoorPrM
namespace Go.Proofs.YtbakmphopgkpmaaDoor.PrW
open Go.ChangeShapes Go.WideShapes Go.ChangeAt Go.RowKit Go.Proofs.YtbakmphopgkpmaaDoor.Num Go.Proofs.YtbakmphopgkpmaaDoor.Sli Go.Proofs.YtbakmphopgkpmaaDoor.App Go.Proofs.YtbakmphopgkpmaaDoor.Blk Go.Proofs.YtbakmphopgkpmaaDoor.TurM Go.Proofs.YtbakmphopgkpmaaDoor.TurI Go.Proofs.YtbakmphopgkpmaaDoor.Par Go.Proofs.YtbakmphopgkpmaaDoor.TurP Go.Proofs.YtbakmphopgkpmaaDoor.MixP Go.Proofs.YtbakmphopgkpmaaDoor.HalM Go.Proofs.YtbakmphopgkpmaaDoor.BndM Go.Proofs.YtbakmphopgkpmaaDoor.BndS Go.Proofs.YtbakmphopgkpmaaDoor.DrwR Go.Proofs.YtbakmphopgkpmaaDoor.LwB Go.Proofs.YtbakmphopgkpmaaDoor.PrM Go.Proofs.YtbakmphopgkpmaaDoor.IntL Go.Proofs.YtbakmphopgkpmaaDoor.IntA

theorem field0 (c a b : Value) (w : World) : (Instr.field 27 (.agg #[c, a, b]) 0).run Tryd.prog w = .ok c w := by kernel_rfl
theorem field1 (c a b : Value) (w : World) : (Instr.field 27 (.agg #[c, a, b]) 1).run Tryd.prog w = .ok a w := by kernel_rfl
theorem field2 (c a b : Value) (w : World) : (Instr.field 27 (.agg #[c, a, b]) 2).run Tryd.prog w = .ok b w := by kernel_rfl
attribute [local go_sem] field0 field1 field2
theorem lwAbs_calls (v : Int) (w : World) (h1 : -4611686018427387904 ≤ v) (h2 : v ≤ 4611686018427387904) :
    Calls Tryd.prog 17 #[.int .i64 v] w fun e w' => e = .returned (.int .i64 (absV v)) ∧ w' = w := by
  by_cases hm : v < 0
  · have H : Hid (absV v = -v) := if_pos hm
    go_enter Tryd.func17, Tryd.ntmps17
    go_wp2
    go_ret
    exact ⟨ret_int H.out.symm, rfl⟩
  · have H : Hid (absV v = v) := if_neg hm
    go_enter Tryd.func17, Tryd.ntmps17
    go_wp2
    go_ret
    exact ⟨ret_int H.out.symm, rfl⟩
theorem of_abs {d T : Int} (h : absV d ≤ T) : -T ≤ d ∧ d ≤ T := by unfold absV at h; split at h <;> omega
theorem pair_small {s n e f : Int} (h : tbO s n e f = true) (he : e ≤ 16777216) (hf : f ≤ 16777216) : tbX s n e f ≤ 1000000000000 ∧ tbY s n e f ≤ 1000000000000 ∧ pbE e f ≤ 1000000000000 := by
  have hO : tOk s n = true ∧ bdB e = true ∧ bdB f = true := by unfold tbO at h; simpa using h
  have he0 := of_inB hO.2.1
  have hf0 := of_inB hO.2.2
  have hpu := pu_bd hO.1
  have hb := tb_bd hpu he0 hf0
  have hpe : pbE e f = e + ceilV f 2 := if_pos (by rw [hO.2.1, hO.2.2]; rfl)
  have htx : tbX s n e f = tbA (pV s n) (uV s n) e f ∧ tbY s n e f = tbB (pV s n) (uV s n) e f := ⟨if_pos h, if_pos h⟩
  rw [htx.1, htx.2, hpe]
  have hc := ceilV_bd f 2 hf0.1 (by omega)
  refine ⟨?_, ?_, by omega⟩
  · show (e + shV _ f) + shV _ (f + shV _ (e + shV _ f)) ≤ _; omega
  · show f + shV _ (e + shV _ f) ≤ _; omega
/-- Two answers, and six. -/
structure Q2 (w : World) (T P : Nat) (tc ta tb pc pe : Int) (W : World) : Prop where
  t : Blk W T #[.int .i64 tc, .int .i64 ta, .int .i64 tb] 27
  p : Blk W P #[.int .i64 pc, .int .i64 pe, .int .i64 pe] 27
  h : Tab W
  b : Below w.heap.size w W
theorem Q2.later {w W W' : World} {T P : Nat} {tc ta tb pc pe : Int} (h : Q2 w T P tc ta tb pc pe W) (hb : Below W.heap.size W W') : Q2 w T P tc ta tb pc pe W' := ⟨h.t.later hb, h.p.later hb, h.h.later hb, bthen h.b hb⟩
structure Q6 (w : World) (T P X Y U V : Nat) (ta tb pe xa xb ya yb ua ub va vb : Int) (W : World) : Prop where
  q : Q2 w T P 0 ta tb 0 pe W
  x : Blk W X #[.int .i64 0, .int .i64 xa, .int .i64 xb] 27
  y : Blk W Y #[.int .i64 0, .int .i64 ya, .int .i64 yb] 27
  u : Blk W U #[.int .i64 0, .int .i64 ua, .int .i64 ub] 27
  v : Blk W V #[.int .i64 0, .int .i64 va, .int .i64 vb] 27
theorem Q6.later {w W W' : World} {T P X Y U V : Nat} {ta tb pe xa xb ya yb ua ub va vb : Int} (h : Q6 w T P X Y U V ta tb pe xa xb ya yb ua ub va vb W) (hb : Below W.heap.size W W') : Q6 w T P X Y U V ta tb pe xa xb ya yb ua ub va vb W' :=
  ⟨h.q.later hb, h.x.later hb, h.y.later hb, h.u.later hb, h.v.later hb⟩
/-- Two numbers that lie behind one another. -/
structure NB (W : World) (g : Nat) (p q : Int) : Prop where
  l : g < W.heap.size
  c0 : W.cell? ⟨g, 0, none⟩ = some (.int .i64 p)
  c1 : W.cell? ⟨g, 1, none⟩ = some (.int .i64 q)
theorem NB.later {W W' : World} {g : Nat} {p q : Int} (h : NB W g p q) (hb : Below W.heap.size W W') : NB W' g p q :=
  ⟨Nat.lt_of_lt_of_le h.l hb.size, (hb.cell (p := ⟨g, 0, none⟩) h.l).trans h.c0, (hb.cell (p := ⟨g, 1, none⟩) h.l).trans h.c1⟩
theorem two_lits (W : World) (x y z t : Int) : Sl .i64 ((W.alloc (.cells #[.int .i64 x, .int .i64 y] 2)).alloc (.cells #[.int .i64 z, .int .i64 t] 2)) (.slice (some ⟨W.heap.size, 0, none⟩) 2 2) [x, y] ∧ Sl .i64 ((W.alloc (.cells #[.int .i64 x, .int .i64 y] 2)).alloc (.cells #[.int .i64 z, .int .i64 t] 2)) (.slice (some ⟨W.heap.size + 1, 0, none⟩) 2 2) [z, t] ∧ Below W.heap.size W ((W.alloc (.cells #[.int .i64 x, .int .i64 y] 2)).alloc (.cells #[.int .i64 z, .int .i64 t] 2)) := by
  refine ⟨(sl_lit .i64 W 2 [x, y] _ 2 rfl rfl).later (bmore (Below.refl _ _) _), ?_, bmore (bmore (Below.refl _ _) _) _⟩
  have := sl_lit .i64 (W.alloc (.cells #[.int .i64 x, .int .i64 y] 2)) 2 [z, t] _ 2 rfl rfl
  rwa [World.size_alloc] at this
set_option maxRecDepth 100000 in
set_option maxHeartbeats 8000000 in
theorem fnPairBounds_calls (a : Option Addr) (cap : Nat) (bs : List Int) (w : World) (hT : Tab w) (hsl : Sl .u8 w (.slice a bs.length cap) bs) (hbd : ∀ x ∈ bs, 0 ≤ x ∧ x ≤ 255) :
    Calls Tryd.prog 3 #[.slice a bs.length cap] w fun e w' => e = .returned (.bool true) ∧ Below w.heap.size w w' := by
  by_cases hbig : 1048576 < bs.length
  · have hb' : (1048576 : Int) < bs.length := by omega
    clear hsl hbd hT
    go_enter Tryd.func3, Tryd.ntmps3
    go_wp2
    go_ret
    exact ⟨rfl, Below.refl _ _⟩
  · have hb' : (bs.length : Int) ≤ 1048576 := by omega
    have H1 := hid (drawBackPair_bd a cap bs w hsl hbd (by omega))
    have H2 := hid (fun W (hb : Below w.heap.size w W) => drawTurnBounds_calls a cap bs W (hsl.later hb) hbd (by omega))
    have HBe := hid (fun W (hb : Below w.heap.size w W) vl vb L B (q1 : Sl .i64 W vl L) (q2 : Sl .i64 W vb B) hB hm => lwBent_calls vl vb L B a cap bs 3 W q1 q2 (hsl.later hb) hbd (by omega) hB hm (by omega))
    have H0 := hid hT
    clear hsl hbd hT
    go_enter Tryd.func3, Tryd.ntmps3
    go_wp2_with (first | (go_at_call 9; go_in) | fail)
    refine H1.out.mono ?_
    rintro e w1 ⟨s, n, ka, kb, rfl, bka, bkb, hb1⟩
    have HB1 := hid hb1
    have Hka := hid bka
    have Hkb := hid bkb
    clear hb1 H1 bka bkb
    go_wp2_with fail
    refine (H2.out _ HB1.out).mono ?_
    rintro e w2 ⟨r1, r2, ee, ff, rfl, be, bf, hb2⟩
    have HB2 := hid (bthen HB1.out hb2)
    have Hbe := hid be
    have Hbf := hid bf
    clear hb2 H2 HB1 be bf
    have HTb := hid (fun W (h : Tab W) => implTurnBounds_calls s n ee ff W h)
    have HPb := hid (fun W => implPartBounds_calls ee ff W)
    have HSt := hid (fun W => specTurnBounds_calls s n ee ff W)
    have HSp := hid (fun W => specPartBounds_calls ee ff W)
    go_wp2_with fail
    refine (HTb.out _ (H0.out.later HB2.out)).mono ?_
    rintro e w3 ⟨rfl, hb3⟩
    have hbq := bmore hb3 (.cells #[.int .i64 (tbC s n ee ff), .int .i64 (tbX s n ee ff), .int .i64 (tbY s n ee ff)] 27)
    have HB3 := hid (bthen HB2.out hbq)
    have HT3 := hid ((H0.out.later HB2.out).later hbq)
    have HK3 := hid (Blk.new w3 #[.int .i64 (tbC s n ee ff), .int .i64 (tbX s n ee ff), .int .i64 (tbY s n ee ff)] 27)
    clear hb3 hbq HB2 HTb H0
    go_wp2_with fail
    refine (HPb.out _).mono ?_
    rintro e w4 ⟨rfl, hb4⟩
    have hbq := bmore hb4 (.cells #[.int .i64 (pbC ee ff), .int .i64 (pbE ee ff), .int .i64 (pbE ee ff)] 27)
    have HK : Hid (Q2 w w3.heap.size w4.heap.size (tbC s n ee ff) (tbX s n ee ff) (tbY s n ee ff) (pbC ee ff) (pbE ee ff) (w4.alloc (.cells #[.int .i64 (pbC ee ff), .int .i64 (pbE ee ff), .int .i64 (pbE ee ff)] 27))) :=
      ⟨HK3.out.later hbq, Blk.new w4 _ _, HT3.out.later hbq, bthen HB3.out hbq⟩
    clear hb4 hbq HB3 HT3 HK3 HPb
    have hKd := hid (HK.out.later (Below.refl _ _).drew)
    go_wp2_with fail
    generalize w4.alloc (.cells #[.int .i64 (pbC ee ff), .int .i64 (pbE ee ff), .int .i64 (pbE ee ff)] 27) = w5 at *
    generalize w3.heap.size = T at *
    generalize w4.heap.size = P at *
    generalize htc : tbC s n ee ff = tc at *
    generalize hta : tbX s n ee ff = ta at *
    generalize htb : tbY s n ee ff = tb at *
    generalize hpc : pbC ee ff = pc at *
    generalize hpe : pbE ee ff = pe at *
    have E := hid (And.intro htc (And.intro hta (And.intro htb (And.intro hpc hpe))))
    clear htc hta htb hpc hpe
    have hKd0 := hKd.out
    refine wp_region_noPanic ?_
    refine wp_region_held_drew (S := fun W => Q2 w T P tc ta tb pc pe W) (by kernel_rfl) ?_ (fun hHeld => ?_)
    · first | exact hK2 | exact hK1 | exact hKd0
    (refine wpAnyH_take (i := 0) (v := ?_) rfl (by kernel_rfl) (by kernel_rfl) (by kernel_rfl) (fun _ _ _ h => h) (Or.inl ⟨by rfl, ?_⟩) hHeld ?_; rotate_left; (intro w hSw; (obtain ⟨m0, _⟩ := hSw.t.three; obtain ⟨m1, _⟩ := hSw.p.three; clear hSw); (go_simp <;> with_reducible rfl)); simp only [List.getElem_toArray, List.getElem_cons_zero, Act.put, List.setIfInBounds_toArray, List.set_cons_zero, List.set_cons_succ])
    (refine wpAnyH_take (i := 1) (v := ?_) rfl (by kernel_rfl) (by kernel_rfl) (by kernel_rfl) (fun _ _ _ h => h) (Or.inl ⟨by rfl, ?_⟩) hHeld ?_; rotate_left; (intro w hSw; (obtain ⟨m0, _⟩ := hSw.t.three; obtain ⟨m1, _⟩ := hSw.p.three; clear hSw); (go_simp <;> with_reducible rfl)); simp only [List.getElem_toArray, List.getElem_cons_zero, List.getElem_cons_succ, Act.put, List.setIfInBounds_toArray, List.set_cons_zero, List.set_cons_succ])
    (refine wpAnyH_take (i := 2) (v := ?_) rfl (by kernel_rfl) (by kernel_rfl) (by kernel_rfl) (fun _ _ _ h => h) (Or.inl ⟨by rfl, ?_⟩) hHeld ?_; rotate_left; (intro w hSw; (obtain ⟨m0, _⟩ := hSw.t.three; obtain ⟨m1, _⟩ := hSw.p.three; clear hSw); (go_simp <;> with_reducible rfl)); simp only [List.getElem_toArray, List.getElem_cons_zero, List.getElem_cons_succ, Act.put, List.setIfInBounds_toArray, List.set_cons_zero, List.set_cons_succ])
    (refine wpAnyH_take (i := 3) (v := ?_) rfl (by kernel_rfl) (by kernel_rfl) (by kernel_rfl) (fun _ _ _ h => h) (Or.inl ⟨by rfl, ?_⟩) hHeld ?_; rotate_left; (intro w hSw; (obtain ⟨m0, _⟩ := hSw.t.three; obtain ⟨m1, _⟩ := hSw.p.three; clear hSw); (go_simp <;> with_reducible rfl)); simp only [List.getElem_toArray, List.getElem_cons_zero, List.getElem_cons_succ, Act.put, List.setIfInBounds_toArray, List.set_cons_zero, List.set_cons_succ])
    (refine wpAnyH_take (i := 4) (v := ?_) rfl (by kernel_rfl) (by kernel_rfl) (by kernel_rfl) (fun _ _ _ h => h) (Or.inl ⟨by rfl, ?_⟩) hHeld ?_; rotate_left; (intro w hSw; (obtain ⟨m0, _⟩ := hSw.t.three; obtain ⟨m1, _⟩ := hSw.p.three; clear hSw); (go_simp <;> with_reducible rfl)); simp only [List.getElem_toArray, List.getElem_cons_zero, List.getElem_cons_succ, Act.put, List.setIfInBounds_toArray, List.set_cons_zero, List.set_cons_succ])
    (refine wpAnyH_take (i := 5) (v := ?_) rfl (by kernel_rfl) (by kernel_rfl) (by kernel_rfl) (fun _ _ _ h => h) (Or.inl ⟨by rfl, ?_⟩) hHeld ?_; rotate_left; (intro w hSw; (obtain ⟨m0, _⟩ := hSw.t.three; obtain ⟨m1, _⟩ := hSw.p.three; clear hSw); (go_simp <;> with_reducible rfl)); simp only [List.getElem_toArray, List.getElem_cons_zero, List.getElem_cons_succ, Act.put, List.setIfInBounds_toArray, List.set_cons_zero, List.set_cons_succ])
    (refine wpAnyH_ready (rs := [6]) (by kernel_rfl) (by simp) ?_; refine AllReadyH.cons rfl (fun K hK => ?_) AllReadyH.nil; go_simp; (refine (HSt.out _).mono ?_; rintro e w9 ⟨rfl, hb9⟩; have hK1 := hHeld.later hb9); refine hK.out _ _ ?_ (fun hHeld => ?_); (first | exact hK2 | exact hK1 | exact hKd0); clear hK K; try dsimp only)
    (refine wpAnyH_take (i := 7) (v := ?_) rfl (by kernel_rfl) (by kernel_rfl) (by kernel_rfl) (fun _ _ _ h => h) (Or.inl ⟨by rfl, ?_⟩) hHeld ?_; rotate_left; (intro w hSw; (obtain ⟨m0, _⟩ := hSw.t.three; obtain ⟨m1, _⟩ := hSw.p.three; clear hSw); (go_simp <;> with_reducible rfl)); simp only [List.getElem_toArray, List.getElem_cons_zero, List.getElem_cons_succ, Act.put, List.setIfInBounds_toArray, List.set_cons_zero, List.set_cons_succ])
    (refine wpAnyH_take (i := 8) (v := ?_) rfl (by kernel_rfl) (by kernel_rfl) (by kernel_rfl) (fun _ _ _ h => h) (Or.inl ⟨by rfl, ?_⟩) hHeld ?_; rotate_left; (intro w hSw; (obtain ⟨m0, _⟩ := hSw.t.three; obtain ⟨m1, _⟩ := hSw.p.three; clear hSw); (go_simp <;> with_reducible rfl)); simp only [List.getElem_toArray, List.getElem_cons_zero, List.getElem_cons_succ, Act.put, List.setIfInBounds_toArray, List.set_cons_zero, List.set_cons_succ])
    (refine wpAnyH_take (i := 9) (v := ?_) rfl (by kernel_rfl) (by kernel_rfl) (by kernel_rfl) (fun _ _ _ h => h) (Or.inl ⟨by rfl, ?_⟩) hHeld ?_; rotate_left; (intro w hSw; (obtain ⟨m0, _⟩ := hSw.t.three; obtain ⟨m1, _⟩ := hSw.p.three; clear hSw); (go_simp <;> with_reducible rfl)); simp only [List.getElem_toArray, List.getElem_cons_zero, List.getElem_cons_succ, Act.put, List.setIfInBounds_toArray, List.set_cons_zero, List.set_cons_succ])
    first | (refine wpAnyH_take (i := 10) (v := ?_) rfl (by kernel_rfl) (by kernel_rfl) (by kernel_rfl) (fun _ _ _ h => h) (Or.inl ⟨by rfl, ?_⟩) hHeld ?_; rotate_left; (intro w hSw; (obtain ⟨m0, _⟩ := hSw.t.three; obtain ⟨m1, _⟩ := hSw.p.three; clear hSw); (go_simp <;> with_reducible rfl)); simp only [List.getElem_toArray, List.getElem_cons_zero, List.getElem_cons_succ, Act.put, List.setIfInBounds_toArray, List.set_cons_zero, List.set_cons_succ]) | (refine wpAnyH_take (i := 10) (v := undef) rfl (by kernel_rfl) (by kernel_rfl) (by kernel_rfl) (fun _ _ _ h => h) (Or.inr ⟨by rfl, rfl⟩) hHeld ?_; simp only [List.getElem_toArray, List.getElem_cons_zero, List.getElem_cons_succ, Act.put, List.setIfInBounds_toArray, List.set_cons_zero, List.set_cons_succ])
    first | (refine wpAnyH_take (i := 11) (v := ?_) rfl (by kernel_rfl) (by kernel_rfl) (by kernel_rfl) (fun _ _ _ h => h) (Or.inl ⟨by rfl, ?_⟩) hHeld ?_; rotate_left; (intro w hSw; (obtain ⟨m0, _⟩ := hSw.t.three; obtain ⟨m1, _⟩ := hSw.p.three; clear hSw); (go_simp <;> with_reducible rfl)); simp only [List.getElem_toArray, List.getElem_cons_zero, List.getElem_cons_succ, Act.put, List.setIfInBounds_toArray, List.set_cons_zero, List.set_cons_succ]) | (refine wpAnyH_take (i := 11) (v := undef) rfl (by kernel_rfl) (by kernel_rfl) (by kernel_rfl) (fun _ _ _ h => h) (Or.inr ⟨by rfl, rfl⟩) hHeld ?_; simp only [List.getElem_toArray, List.getElem_cons_zero, List.getElem_cons_succ, Act.put, List.setIfInBounds_toArray, List.set_cons_zero, List.set_cons_succ])
    first | (refine wpAnyH_take (i := 12) (v := ?_) rfl (by kernel_rfl) (by kernel_rfl) (by kernel_rfl) (fun _ _ _ h => h) (Or.inl ⟨by rfl, ?_⟩) hHeld ?_; rotate_left; (intro w hSw; (obtain ⟨m0, _⟩ := hSw.t.three; obtain ⟨m1, _⟩ := hSw.p.three; clear hSw); (go_simp <;> with_reducible rfl)); simp only [List.getElem_toArray, List.getElem_cons_zero, List.getElem_cons_succ, Act.put, List.setIfInBounds_toArray, List.set_cons_zero, List.set_cons_succ]) | (refine wpAnyH_take (i := 12) (v := undef) rfl (by kernel_rfl) (by kernel_rfl) (by kernel_rfl) (fun _ _ _ h => h) (Or.inr ⟨by rfl, rfl⟩) hHeld ?_; simp only [List.getElem_toArray, List.getElem_cons_zero, List.getElem_cons_succ, Act.put, List.setIfInBounds_toArray, List.set_cons_zero, List.set_cons_succ])
    first | (refine wpAnyH_take (i := 13) (v := ?_) rfl (by kernel_rfl) (by kernel_rfl) (by kernel_rfl) (fun _ _ _ h => h) (Or.inl ⟨by rfl, ?_⟩) hHeld ?_; rotate_left; (intro w hSw; (obtain ⟨m0, _⟩ := hSw.t.three; obtain ⟨m1, _⟩ := hSw.p.three; clear hSw); (go_simp <;> with_reducible rfl)); simp only [List.getElem_toArray, List.getElem_cons_zero, List.getElem_cons_succ, Act.put, List.setIfInBounds_toArray, List.set_cons_zero, List.set_cons_succ]) | (refine wpAnyH_take (i := 13) (v := undef) rfl (by kernel_rfl) (by kernel_rfl) (by kernel_rfl) (fun _ _ _ h => h) (Or.inr ⟨by rfl, rfl⟩) hHeld ?_; simp only [List.getElem_toArray, List.getElem_cons_zero, List.getElem_cons_succ, Act.put, List.setIfInBounds_toArray, List.set_cons_zero, List.set_cons_succ])
    first | (refine wpAnyH_take (i := 14) (v := undef) rfl (by kernel_rfl) (by kernel_rfl) (by kernel_rfl) (fun _ _ _ h => h) (Or.inr ⟨by rfl, rfl⟩) hHeld ?_; simp only [List.getElem_toArray, List.getElem_cons_zero, List.getElem_cons_succ, Act.put, List.setIfInBounds_toArray, List.set_cons_zero, List.set_cons_succ]) | (refine wpAnyH_ready (rs := [14]) (by kernel_rfl) (by simp) ?_; refine AllReadyH.cons rfl (fun K hK => ?_) AllReadyH.nil; go_simp; (refine (HSp.out _).mono ?_; rintro e w10 ⟨rfl, hb10⟩; have hK2 := hHeld.later hb10); refine hK.out _ _ ?_ (fun hHeld => ?_); (first | exact hK2 | exact hK1 | exact hKd0); clear hK K; try dsimp only)
    first | (refine wpAnyH_take (i := 15) (v := ?_) rfl (by kernel_rfl) (by kernel_rfl) (by kernel_rfl) (fun _ _ _ h => h) (Or.inl ⟨by rfl, ?_⟩) hHeld ?_; rotate_left; (intro w hSw; (obtain ⟨m0, _⟩ := hSw.t.three; obtain ⟨m1, _⟩ := hSw.p.three; clear hSw); (go_simp <;> with_reducible rfl)); simp only [List.getElem_toArray, List.getElem_cons_zero, List.getElem_cons_succ, Act.put, List.setIfInBounds_toArray, List.set_cons_zero, List.set_cons_succ]) | (refine wpAnyH_take (i := 15) (v := undef) rfl (by kernel_rfl) (by kernel_rfl) (by kernel_rfl) (fun _ _ _ h => h) (Or.inr ⟨by rfl, rfl⟩) hHeld ?_; simp only [List.getElem_toArray, List.getElem_cons_zero, List.getElem_cons_succ, Act.put, List.setIfInBounds_toArray, List.set_cons_zero, List.set_cons_succ])
    first | (refine wpAnyH_take (i := 16) (v := ?_) rfl (by kernel_rfl) (by kernel_rfl) (by kernel_rfl) (fun _ _ _ h => h) (Or.inl ⟨by rfl, ?_⟩) hHeld ?_; rotate_left; (intro w hSw; (obtain ⟨m0, _⟩ := hSw.t.three; obtain ⟨m1, _⟩ := hSw.p.three; clear hSw); (go_simp <;> with_reducible rfl)); simp only [List.getElem_toArray, List.getElem_cons_zero, List.getElem_cons_succ, Act.put, List.setIfInBounds_toArray, List.set_cons_zero, List.set_cons_succ]) | (refine wpAnyH_take (i := 16) (v := undef) rfl (by kernel_rfl) (by kernel_rfl) (by kernel_rfl) (fun _ _ _ h => h) (Or.inr ⟨by rfl, rfl⟩) hHeld ?_; simp only [List.getElem_toArray, List.getElem_cons_zero, List.getElem_cons_succ, Act.put, List.setIfInBounds_toArray, List.set_cons_zero, List.set_cons_succ])
    (refine wpAnyH_take (i := 17) (v := ?_) rfl (by kernel_rfl) (by kernel_rfl) (by kernel_rfl) (fun _ _ _ h => h) (Or.inl ⟨by rfl, ?_⟩) hHeld ?_; rotate_left; (intro w hSw; (obtain ⟨m0, _⟩ := hSw.t.three; obtain ⟨m1, _⟩ := hSw.p.three; clear hSw); (go_simp <;> with_reducible rfl)); simp only [List.getElem_toArray, List.getElem_cons_zero, List.getElem_cons_succ, Act.put, List.setIfInBounds_toArray, List.set_cons_zero, List.set_cons_succ])
    refine wpAnyH_done (by kernel_rfl) ?_ _
    refine NoPanic.normal ?_
    have HK9 := hid hHeld
    clear hHeld HK hKd hKd0
    have HBn : Hid (∀ W, Q2 w T P tc ta tb pc pe W → Calls Tryd.prog 16 #[.slice (some ⟨W.heap.size, 0, none⟩) 2 2, .slice (some ⟨W.heap.size + 1, 0, none⟩) 2 2, .slice a bs.length cap, .int .i64 3] ((W.alloc (.cells #[.int .i64 ka, .int .i64 kb] 2)).alloc (.cells #[.int .i64 ee, .int .i64 ff] 2)) fun e w' => ∃ (gl cl : Nat) (p q : Int), e = .returned (.slice (some ⟨gl, 0, none⟩) 2 cl) ∧ Q2 w T P tc ta tb pc pe w' ∧ NB w' gl p q ∧ nr (absV ee) p ka ∧ nr (absV ff) q kb) := by
      intro W hQ
      obtain ⟨q1, q2, q3⟩ := two_lits W ka kb ee ff
      have hlim : lim 1099511627776 [ee, ff] := by
        intro i
        have h1 := Hbe.out
        have h2 := Hbf.out
        rcases i with _ | _ | i
        · show _ ≤ ee ∧ ee ≤ _; omega
        · show _ ≤ ff ∧ ff ≤ _; omega
        · show _ ≤ (0 : Int) ∧ (0 : Int) ≤ _; omega
      refine (HBe.out _ (bthen hQ.b q3) _ _ [ka, kb] [ee, ff] q1 q2 hlim (by simp)).mono ?_
      rintro e w' ⟨gl, cl, ys, rfl, ho, hl, hbt, hb⟩
      obtain ⟨p, q, rfl⟩ : ∃ p q, ys = [p, q] := by
        match ys, hl with
        | [p, q], _ => exact ⟨p, q, rfl⟩
      obtain ⟨_, _, e1, hc⟩ := ho.sl
      cases e1
      obtain ⟨_, _, e2, hlt, hcell⟩ := hc (by simp)
      cases e2
      have n1 := hbt 0 (by simp) (by have := Hka.out; show _ ≤ ka ∧ ka ≤ _; omega)
      have n2 := hbt 1 (by simp) (by have := Hkb.out; show _ ≤ kb ∧ kb ≤ _; omega)
      exact ⟨gl, cl, p, q, rfl, hQ.later (bthen q3 hb), ⟨hlt, hcell 0 (by simp), hcell 1 (by simp)⟩, n1, n2⟩
    clear HBe
    obtain ⟨m0, m1, m2, _⟩ := HK9.out.t.three
    obtain ⟨m3, m4, m5, _⟩ := HK9.out.p.three
    go_wp2_with fail
    refine (HBn.out _ HK9.out).mono ?_
    rintro e w11 ⟨gl, cl, p, q, rfl, hq11, hn11, nx, ny⟩
    have HK11 := hid hq11
    have HN11 := hid hn11
    have Hx := hid nx
    have Hy := hid ny
    clear hq11 hn11 nx ny HBn HK9 m0 m1 m2 m3 m4 m5
    obtain ⟨m0, m1, m2, _⟩ := HK11.out.t.three
    obtain ⟨m3, m4, m5, _⟩ := HK11.out.p.three
    have HAa := hid (fun W => lwAbs_calls ka W (by have := Hka.out; omega) (by have := Hka.out; omega))
    have HAb := hid (fun W => lwAbs_calls kb W (by have := Hkb.out; omega) (by have := Hkb.out; omega))
    have HBw := hid HK11.out.b
    cases ho : tbO s n ee ff
    · have h3 : tc = 3 := by rw [← E.out.1]; exact if_neg (by rw [ho]; decide)
      subst h3
      clear E ho HSt HSp HK11 HN11 HAa HAb
      go_wp2
      go_ret
      exact ⟨rfl, HBw.out⟩
    have h0 : tc = 0 := by rw [← E.out.1]; exact if_pos ho
    have hbb : (bdB ee && bdB ff) = true := by unfold tbO at ho; simp at ho ⊢; exact ho.2
    have h0p : pc = 0 := by rw [← E.out.2.2.2.1]; exact if_pos hbb
    subst h0 h0p
    by_cases he : 16777216 < ee
    · clear E ho HSt HSp HK11 HN11 HAa HAb hbb
      go_wp2
      go_ret
      exact ⟨rfl, HBw.out⟩
    by_cases hf : 16777216 < ff
    · clear E ho HSt HSp HK11 HN11 HAa HAb hbb
      go_wp2
      go_ret
      exact ⟨rfl, HBw.out⟩
    by_cases hA : 268435456 < absV ka
    · clear E ho HSt HSp HK11 HN11 HAb hbb
      generalize absV ka = da at *
      go_wp2_with (go_at_call 17; refine (HAa.out _).mono ?_; rintro e w' ⟨rfl, rfl⟩)
      go_ret
      exact ⟨rfl, HBw.out⟩
    by_cases hB : 268435456 < absV kb
    · clear E ho HSt HSp HK11 HN11 hbb
      generalize absV ka = da at *
      generalize absV kb = db at *
      go_wp2_with fail
      refine (HAa.out _).mono ?_
      rintro e w' ⟨rfl, rfl⟩
      go_wp2_with fail
      refine (HAb.out _).mono ?_
      rintro e w' ⟨rfl, rfl⟩
      go_wp2
      go_ret
      exact ⟨rfl, HBw.out⟩
    obtain ⟨⟨g1, g2, g3, g4⟩, ⟨d1, d2⟩, ⟨d3, d4⟩⟩ := pair_law ho (by omega) (by omega) (by omega) (by omega) Hx.out Hy.out
    obtain ⟨s1, s2, s3⟩ := pair_small ho (by omega) (by omega)
    rw [E.out.2.1] at d1 s1
    rw [E.out.2.2.1] at d2 s2
    rw [E.out.2.2.2.2] at d3 d4 s3
    have HX := hid (fun W (h : Tab W) => implBackPair_calls s n ka kb W h)
    have HY := hid (fun W (h : Tab W) => implBackPair_calls s n p q W h)
    have HU := hid (fun W => implPartPair_calls ka kb W)
    have HV := hid (fun W => implPartPair_calls p q W)
    rw [g1] at HX
    rw [g2] at HY
    rw [g3] at HU
    rw [g4] at HV
    clear E ho hbb g1 g2 g3 g4 Hx Hy Hka Hkb Hbe Hbf
    generalize absV ka = da at *
    generalize absV kb = db at *
    generalize bpA s n ka kb = xa at *
    generalize bpB s n ka kb = xb at *
    generalize bpA s n p q = ya at *
    generalize bpB s n p q = yb at *
    generalize ptA ka kb = ua at *
    generalize ptB ka kb = ub at *
    generalize ptA p q = va at *
    generalize ptB p q = vb at *
    go_wp2_with fail
    refine (HAa.out _).mono ?_
    rintro e w' ⟨rfl, rfl⟩
    go_wp2_with fail
    refine (HAb.out _).mono ?_
    rintro e w' ⟨rfl, rfl⟩
    clear HAa HAb HBw
    go_wp2_with fail
    refine (HX.out _ HK11.out.h).mono ?_
    rintro e w12 ⟨rfl, hb12⟩
    have hbq := bmore hb12 (.cells #[.int .i64 0, .int .i64 xa, .int .i64 xb] 27)
    have HK12 := hid (HK11.out.later hbq)
    have HN12 := hid (HN11.out.later hbq)
    have HX12 := hid (Blk.new w12 #[.int .i64 0, .int .i64 xa, .int .i64 xb] 27)
    clear hb12 hbq HK11 HN11 HX m0 m1 m2 m3 m4 m5 hA hB he hf
    go_upto_region 13 with fail
    generalize w12.heap.size = X at *
    generalize w12.alloc (.cells #[.int .i64 0, .int .i64 xa, .int .i64 xb] 27) = w13 at *
    go_cut [15] from 99 to 107 (fun z wc => ∃ E : Nat, z = .pointer (some ⟨E, 0, none⟩) ∧ w13.heap.size ≤ E ∧ Hid (Blk wc E #[.int .i64 0, .int .i64 ya, .int .i64 yb] 27) ∧ Hid (Below w13.heap.size w13 wc))
    case first =>
      have hL0 : Below w13.heap.size w13 w13.drew := (Below.refl _ w13).drew
      have hA1 : Below w13.heap.size w13 (w13.alloc (.cells #[.int .i64 0, .int .i64 0, .int .i64 0] 27)).drew := (bmore (Below.refl _ w13) _).drew
      have hE1 : Blk (w13.alloc (.cells #[.int .i64 0, .int .i64 0, .int .i64 0] 27)).drew w13.heap.size #[.int .i64 0, .int .i64 0, .int .i64 0] 27 := Blk.new w13 _ _
      have hTq : ∀ W, Below w13.heap.size w13 W → Tab W := fun W h => HK12.out.h.later h
      have hNq : ∀ W, Below w13.heap.size w13 W → W.cell? ⟨gl, 0, none⟩ = some (.int .i64 p) ∧ W.cell? ⟨gl, 1, none⟩ = some (.int .i64 q) := fun W h => ⟨(HN12.out.later h).c0, (HN12.out.later h).c1⟩
      have hle0 : w13.heap.size ≤ w13.heap.size := Nat.le_refl _
      refine wp_region_noPanic ?_
      refine wp_region_held_drew (S := fun W => Below w13.heap.size w13 W) (by kernel_rfl) (by first | exact hP9 | exact hL9 | exact hP7 | exact hL7 | exact hA1 | exact hL0) (fun hHeld => ?_)
      (refine wpAnyH_take (i := 0) (v := ?_) rfl (by kernel_rfl) (by kernel_rfl) (by kernel_rfl) (fun _ _ _ h => h) (Or.inl ⟨by rfl, ?_⟩) hHeld ?_; rotate_left; (intro w hSw; (obtain ⟨s1', s2'⟩ := hNq _ hSw; clear hSw); (go_simp <;> with_reducible rfl)); simp only [List.getElem_toArray, List.getElem_cons_zero, Act.put, List.setIfInBounds_toArray, List.set_cons_zero, List.set_cons_succ])
      (refine wpAnyH_take (i := 1) (v := ?_) rfl (by kernel_rfl) (by kernel_rfl) (by kernel_rfl) (fun _ _ _ h => h) (Or.inl ⟨by rfl, ?_⟩) hHeld ?_; rotate_left; (intro w hSw; (obtain ⟨s1', s2'⟩ := hNq _ hSw; clear hSw); (go_simp <;> with_reducible rfl)); simp only [List.getElem_toArray, List.getElem_cons_zero, List.getElem_cons_succ, Act.put, List.setIfInBounds_toArray, List.set_cons_zero, List.set_cons_succ])
      (refine wpAnyH_take (i := 2) (v := ?_) rfl (by kernel_rfl) (by kernel_rfl) (by kernel_rfl) (fun _ _ _ h => h) (Or.inl ⟨by rfl, ?_⟩) hHeld ?_; rotate_left; (intro w hSw; (obtain ⟨s1', s2'⟩ := hNq _ hSw; clear hSw); (go_simp <;> with_reducible rfl)); simp only [List.getElem_toArray, List.getElem_cons_zero, List.getElem_cons_succ, Act.put, List.setIfInBounds_toArray, List.set_cons_zero, List.set_cons_succ])
      (refine wpAnyH_take (i := 3) (v := ?_) rfl (by kernel_rfl) (by kernel_rfl) (by kernel_rfl) (fun _ _ _ h => h) (Or.inl ⟨by rfl, ?_⟩) hHeld ?_; rotate_left; (intro w hSw; (obtain ⟨s1', s2'⟩ := hNq _ hSw; clear hSw); (go_simp <;> with_reducible rfl)); simp only [List.getElem_toArray, List.getElem_cons_zero, List.getElem_cons_succ, Act.put, List.setIfInBounds_toArray, List.set_cons_zero, List.set_cons_succ])
      (refine wpAnyH_take (i := 4) (v := ?_) rfl (by kernel_rfl) (by kernel_rfl) (by kernel_rfl) (fun _ _ _ h => h) (Or.inl ⟨by rfl, ?_⟩) hHeld ?_; rotate_left; (intro w hSw; (obtain ⟨s1', s2'⟩ := hNq _ hSw; clear hSw); (go_simp <;> with_reducible rfl)); simp only [List.getElem_toArray, List.getElem_cons_zero, List.getElem_cons_succ, Act.put, List.setIfInBounds_toArray, List.set_cons_zero, List.set_cons_succ])
      (refine wpAnyH_take (i := 5) (v := ?_) rfl (by kernel_rfl) (by kernel_rfl) (by kernel_rfl) (fun _ _ _ h => h) (Or.inl ⟨by rfl, ?_⟩) hHeld ?_; rotate_left; (intro w hSw; (obtain ⟨s1', s2'⟩ := hNq _ hSw; clear hSw); (go_simp <;> with_reducible rfl)); simp only [List.getElem_toArray, List.getElem_cons_zero, List.getElem_cons_succ, Act.put, List.setIfInBounds_toArray, List.set_cons_zero, List.set_cons_succ])
      (refine wpAnyH_take (i := 6) (v := ?_) rfl (by kernel_rfl) (by kernel_rfl) (by kernel_rfl) (fun _ _ _ h => h) (Or.inl ⟨by rfl, ?_⟩) hHeld ?_; rotate_left; (intro w hSw; (obtain ⟨s1', s2'⟩ := hNq _ hSw; clear hSw); (go_simp <;> with_reducible rfl)); simp only [List.getElem_toArray, List.getElem_cons_zero, List.getElem_cons_succ, Act.put, List.setIfInBounds_toArray, List.set_cons_zero, List.set_cons_succ])
      (refine wpAnyH_take (i := 7) (v := ?_) rfl (by kernel_rfl) (by kernel_rfl) (by kernel_rfl) (fun _ _ _ h => h) (Or.inl ⟨by rfl, ?_⟩) hHeld ?_; rotate_left; (intro w hSw; (obtain ⟨s1', s2'⟩ := hNq _ hSw; clear hSw); (go_simp <;> with_reducible rfl)); simp only [List.getElem_toArray, List.getElem_cons_zero, List.getElem_cons_succ, Act.put, List.setIfInBounds_toArray, List.set_cons_zero, List.set_cons_succ])
      refine wpAnyH_ready (rs := [8, 9]) (by kernel_rfl) (by simp) ?_
      refine (AllReadyH.cons rfl (fun K hK => ?_) (AllReadyH.cons rfl (fun K hK => ?_) AllReadyH.nil))
      · go_simp
        (refine (HY.out _ (hTq _ hHeld)).mono ?_; rintro e w19 ⟨rfl, hb9⟩; have hL9 := bthen hHeld hb9; clear hE1; have hle8 : w13.heap.size ≤ w19.heap.size := hL9.size; have hL7 := bmore hL9 (.cells #[.int .i64 0, .int .i64 0, .int .i64 0] 27); have hP7 := bmore hL9 (.cells #[.int .i64 0, .int .i64 ya, .int .i64 yb] 27); have hQ9 := Blk.new w19 #[.int .i64 0, .int .i64 ya, .int .i64 yb] 27)
        refine hK.out _ _ (by first | exact hP9 | exact hL9 | exact hP7 | exact hL7 | exact hA1 | exact hL0) (fun hHeld => ?_)
        clear hK K
        try dsimp only
        refine wpAnyH_ready (rs := [9]) (by kernel_rfl) (by simp) ?_
        refine (AllReadyH.cons rfl (fun K hK => ?_) AllReadyH.nil)
        go_simp
        skip
        refine hK.out _ _ (by first | exact hP9 | exact hL9 | exact hP7 | exact hL7 | exact hA1 | exact hL0) (fun hHeld => ?_)
        clear hK K
        try simp only [List.getElem_toArray, List.getElem_cons_zero, List.getElem_cons_succ, Act.put, List.setIfInBounds_toArray, List.set_cons_zero, List.set_cons_succ]
        refine wpAnyH_ready (rs := [10]) (by kernel_rfl) (by simp) ?_
        refine (AllReadyH.cons rfl (fun K hK => ?_) AllReadyH.nil)
        go_simp
        skip
        refine hK.out _ _ (by first | exact hP9 | exact hL9 | exact hP7 | exact hL7 | exact hA1 | exact hL0) (fun hHeld => ?_)
        clear hK K
        try simp only [List.getElem_toArray, List.getElem_cons_zero, List.getElem_cons_succ, Act.put, List.setIfInBounds_toArray, List.set_cons_zero, List.set_cons_succ]
        refine wpAnyH_done (by kernel_rfl) ?_ _
        refine NoPanic.normal ?_
        go_wp2_with fail
        go_meet
        case rel => first | exact ⟨_, rfl, hle0, hQ9, hP9⟩ | exact ⟨_, rfl, hle8, hQ9, hP7⟩
      · go_simp
        skip
        refine hK.out _ _ (by first | exact hP9 | exact hL9 | exact hP7 | exact hL7 | exact hA1 | exact hL0) (fun hHeld => ?_)
        clear hK K
        try simp only [List.getElem_toArray, List.getElem_cons_zero, List.getElem_cons_succ, Act.put, List.setIfInBounds_toArray, List.set_cons_zero, List.set_cons_succ]
        refine wpAnyH_ready (rs := [8]) (by kernel_rfl) (by simp) ?_
        refine (AllReadyH.cons rfl (fun K hK => ?_) AllReadyH.nil)
        go_simp
        (refine (HY.out _ (hTq _ hHeld)).mono ?_; rintro e w19 ⟨rfl, hb9⟩; have hL9 := bthen hHeld hb9; have hE9 := hE1.later hb9; obtain ⟨y0, y1, y2, y3, y4, y5⟩ := hE9.three; have hP9 := below_cell (below_cell (below_cell hL9 hle0 0 (.int .i64 0)) hle0 1 (.int .i64 ya)) hle0 2 (.int .i64 yb); have hQ9 := ((hE9.set 0 (.int .i64 0)).set 1 (.int .i64 ya)).set 2 (.int .i64 yb))
        refine hK.out _ _ (by first | exact hP9 | exact hL9 | exact hP7 | exact hL7 | exact hA1 | exact hL0) (fun hHeld => ?_)
        clear hK K
        try dsimp only
        refine wpAnyH_ready (rs := [10]) (by kernel_rfl) (by simp) ?_
        refine (AllReadyH.cons rfl (fun K hK => ?_) AllReadyH.nil)
        go_simp
        skip
        refine hK.out _ _ (by first | exact hP9 | exact hL9 | exact hP7 | exact hL7 | exact hA1 | exact hL0) (fun hHeld => ?_)
        clear hK K
        try simp only [List.getElem_toArray, List.getElem_cons_zero, List.getElem_cons_succ, Act.put, List.setIfInBounds_toArray, List.set_cons_zero, List.set_cons_succ]
        refine wpAnyH_done (by kernel_rfl) ?_ _
        refine NoPanic.normal ?_
        go_wp2_with fail
        go_meet
        case rel => first | exact ⟨_, rfl, hle0, hQ9, hP9⟩ | exact ⟨_, rfl, hle8, hQ9, hP7⟩
    case rest =>
      obtain ⟨Y, rfl, hY, HYb, HBc⟩ := hcut
      have HK14 := hid (HK12.out.later HBc.out)
      have HN14 := hid (HN12.out.later HBc.out)
      have HX14 := hid (HX12.out.later HBc.out)
      clear HK12 HN12 HX12 HY HBc hY
      go_wp2_with fail
      refine (HU.out _).mono ?_
      rintro e w15 ⟨rfl, hb15⟩
      have hbq := bmore hb15 (.cells #[.int .i64 0, .int .i64 ua, .int .i64 ub] 27)
      have HK15 := hid (HK14.out.later hbq)
      have HN15 := hid (HN14.out.later hbq)
      have HX15 := hid (HX14.out.later hbq)
      have HY15 := hid (HYb.out.later hbq)
      have HU15 := hid (Blk.new w15 #[.int .i64 0, .int .i64 ua, .int .i64 ub] 27)
      clear hb15 hbq HK14 HN14 HX14 HYb HU
      go_upto_region 15 with fail
      generalize w15.heap.size = U at *
      generalize w15.alloc (.cells #[.int .i64 0, .int .i64 ua, .int .i64 ub] 27) = w16 at *
      go_cut [17] from 111 to 117 (fun z wc => ∃ E : Nat, z = .pointer (some ⟨E, 0, none⟩) ∧ w16.heap.size ≤ E ∧ Hid (Blk wc E #[.int .i64 0, .int .i64 va, .int .i64 vb] 27) ∧ Hid (Below w16.heap.size w16 wc))
      case first =>
        have hL0 : Below w16.heap.size w16 w16.drew := (Below.refl _ w16).drew
        have hA1 : Below w16.heap.size w16 (w16.alloc (.cells #[.int .i64 0, .int .i64 0, .int .i64 0] 27)).drew := (bmore (Below.refl _ w16) _).drew
        have hE1 : Blk (w16.alloc (.cells #[.int .i64 0, .int .i64 0, .int .i64 0] 27)).drew w16.heap.size #[.int .i64 0, .int .i64 0, .int .i64 0] 27 := Blk.new w16 _ _
        have hNq : ∀ W, Below w16.heap.size w16 W → W.cell? ⟨gl, 0, none⟩ = some (.int .i64 p) ∧ W.cell? ⟨gl, 1, none⟩ = some (.int .i64 q) := fun W h => ⟨(HN15.out.later h).c0, (HN15.out.later h).c1⟩
        have hle0 : w16.heap.size ≤ w16.heap.size := Nat.le_refl _
        refine wp_region_noPanic ?_
        refine wp_region_held_drew (S := fun W => Below w16.heap.size w16 W) (by kernel_rfl) (by first | exact hP9 | exact hL9 | exact hP7 | exact hL7 | exact hA1 | exact hL0) (fun hHeld => ?_)
        (refine wpAnyH_take (i := 0) (v := ?_) rfl (by kernel_rfl) (by kernel_rfl) (by kernel_rfl) (fun _ _ _ h => h) (Or.inl ⟨by rfl, ?_⟩) hHeld ?_; rotate_left; (intro w hSw; (obtain ⟨s1', s2'⟩ := hNq _ hSw; clear hSw); (go_simp <;> with_reducible rfl)); simp only [List.getElem_toArray, List.getElem_cons_zero, Act.put, List.setIfInBounds_toArray, List.set_cons_zero, List.set_cons_succ])
        (refine wpAnyH_take (i := 1) (v := ?_) rfl (by kernel_rfl) (by kernel_rfl) (by kernel_rfl) (fun _ _ _ h => h) (Or.inl ⟨by rfl, ?_⟩) hHeld ?_; rotate_left; (intro w hSw; (obtain ⟨s1', s2'⟩ := hNq _ hSw; clear hSw); (go_simp <;> with_reducible rfl)); simp only [List.getElem_toArray, List.getElem_cons_zero, List.getElem_cons_succ, Act.put, List.setIfInBounds_toArray, List.set_cons_zero, List.set_cons_succ])
        (refine wpAnyH_take (i := 2) (v := ?_) rfl (by kernel_rfl) (by kernel_rfl) (by kernel_rfl) (fun _ _ _ h => h) (Or.inl ⟨by rfl, ?_⟩) hHeld ?_; rotate_left; (intro w hSw; (obtain ⟨s1', s2'⟩ := hNq _ hSw; clear hSw); (go_simp <;> with_reducible rfl)); simp only [List.getElem_toArray, List.getElem_cons_zero, List.getElem_cons_succ, Act.put, List.setIfInBounds_toArray, List.set_cons_zero, List.set_cons_succ])
        (refine wpAnyH_take (i := 3) (v := ?_) rfl (by kernel_rfl) (by kernel_rfl) (by kernel_rfl) (fun _ _ _ h => h) (Or.inl ⟨by rfl, ?_⟩) hHeld ?_; rotate_left; (intro w hSw; (obtain ⟨s1', s2'⟩ := hNq _ hSw; clear hSw); (go_simp <;> with_reducible rfl)); simp only [List.getElem_toArray, List.getElem_cons_zero, List.getElem_cons_succ, Act.put, List.setIfInBounds_toArray, List.set_cons_zero, List.set_cons_succ])
        (refine wpAnyH_take (i := 4) (v := ?_) rfl (by kernel_rfl) (by kernel_rfl) (by kernel_rfl) (fun _ _ _ h => h) (Or.inl ⟨by rfl, ?_⟩) hHeld ?_; rotate_left; (intro w hSw; (obtain ⟨s1', s2'⟩ := hNq _ hSw; clear hSw); (go_simp <;> with_reducible rfl)); simp only [List.getElem_toArray, List.getElem_cons_zero, List.getElem_cons_succ, Act.put, List.setIfInBounds_toArray, List.set_cons_zero, List.set_cons_succ])
        (refine wpAnyH_take (i := 5) (v := ?_) rfl (by kernel_rfl) (by kernel_rfl) (by kernel_rfl) (fun _ _ _ h => h) (Or.inl ⟨by rfl, ?_⟩) hHeld ?_; rotate_left; (intro w hSw; (obtain ⟨s1', s2'⟩ := hNq _ hSw; clear hSw); (go_simp <;> with_reducible rfl)); simp only [List.getElem_toArray, List.getElem_cons_zero, List.getElem_cons_succ, Act.put, List.setIfInBounds_toArray, List.set_cons_zero, List.set_cons_succ])
        refine wpAnyH_ready (rs := [6, 7]) (by kernel_rfl) (by simp) ?_
        refine (AllReadyH.cons rfl (fun K hK => ?_) (AllReadyH.cons rfl (fun K hK => ?_) AllReadyH.nil))
        · go_simp
          (refine (HV.out _).mono ?_; rintro e w19 ⟨rfl, hb9⟩; have hL9 := bthen hHeld hb9; clear hE1; have hle8 : w16.heap.size ≤ w19.heap.size := hL9.size; have hL7 := bmore hL9 (.cells #[.int .i64 0, .int .i64 0, .int .i64 0] 27); have hP7 := bmore hL9 (.cells #[.int .i64 0, .int .i64 va, .int .i64 vb] 27); have hQ9 := Blk.new w19 #[.int .i64 0, .int .i64 va, .int .i64 vb] 27)
          refine hK.out _ _ (by first | exact hP9 | exact hL9 | exact hP7 | exact hL7 | exact hA1 | exact hL0) (fun hHeld => ?_)
          clear hK K
          try dsimp only
          refine wpAnyH_ready (rs := [7]) (by kernel_rfl) (by simp) ?_
          refine (AllReadyH.cons rfl (fun K hK => ?_) AllReadyH.nil)
          go_simp
          skip
          refine hK.out _ _ (by first | exact hP9 | exact hL9 | exact hP7 | exact hL7 | exact hA1 | exact hL0) (fun hHeld => ?_)
          clear hK K
          try simp only [List.getElem_toArray, List.getElem_cons_zero, List.getElem_cons_succ, Act.put, List.setIfInBounds_toArray, List.set_cons_zero, List.set_cons_succ]
          refine wpAnyH_ready (rs := [8]) (by kernel_rfl) (by simp) ?_
          refine (AllReadyH.cons rfl (fun K hK => ?_) AllReadyH.nil)
          go_simp
          skip
          refine hK.out _ _ (by first | exact hP9 | exact hL9 | exact hP7 | exact hL7 | exact hA1 | exact hL0) (fun hHeld => ?_)
          clear hK K
          try simp only [List.getElem_toArray, List.getElem_cons_zero, List.getElem_cons_succ, Act.put, List.setIfInBounds_toArray, List.set_cons_zero, List.set_cons_succ]
          refine wpAnyH_done (by kernel_rfl) ?_ _
          refine NoPanic.normal ?_
          go_wp2_with fail
          go_meet
          case rel => first | exact ⟨_, rfl, hle0, hQ9, hP9⟩ | exact ⟨_, rfl, hle8, hQ9, hP7⟩
        · go_simp
          skip
          refine hK.out _ _ (by first | exact hP9 | exact hL9 | exact hP7 | exact hL7 | exact hA1 | exact hL0) (fun hHeld => ?_)
          clear hK K
          try simp only [List.getElem_toArray, List.getElem_cons_zero, List.getElem_cons_succ, Act.put, List.setIfInBounds_toArray, List.set_cons_zero, List.set_cons_succ]
          refine wpAnyH_ready (rs := [6]) (by kernel_rfl) (by simp) ?_
          refine (AllReadyH.cons rfl (fun K hK => ?_) AllReadyH.nil)
          go_simp
          (refine (HV.out _).mono ?_; rintro e w19 ⟨rfl, hb9⟩; have hL9 := bthen hHeld hb9; have hE9 := hE1.later hb9; obtain ⟨y0, y1, y2, y3, y4, y5⟩ := hE9.three; have hP9 := below_cell (below_cell (below_cell hL9 hle0 0 (.int .i64 0)) hle0 1 (.int .i64 va)) hle0 2 (.int .i64 vb); have hQ9 := ((hE9.set 0 (.int .i64 0)).set 1 (.int .i64 va)).set 2 (.int .i64 vb))
          refine hK.out _ _ (by first | exact hP9 | exact hL9 | exact hP7 | exact hL7 | exact hA1 | exact hL0) (fun hHeld => ?_)
          clear hK K
          try dsimp only
          refine wpAnyH_ready (rs := [8]) (by kernel_rfl) (by simp) ?_
          refine (AllReadyH.cons rfl (fun K hK => ?_) AllReadyH.nil)
          go_simp
          skip
          refine hK.out _ _ (by first | exact hP9 | exact hL9 | exact hP7 | exact hL7 | exact hA1 | exact hL0) (fun hHeld => ?_)
          clear hK K
          try simp only [List.getElem_toArray, List.getElem_cons_zero, List.getElem_cons_succ, Act.put, List.setIfInBounds_toArray, List.set_cons_zero, List.set_cons_succ]
          refine wpAnyH_done (by kernel_rfl) ?_ _
          refine NoPanic.normal ?_
          go_wp2_with fail
          go_meet
          case rel => first | exact ⟨_, rfl, hle0, hQ9, hP9⟩ | exact ⟨_, rfl, hle8, hQ9, hP7⟩
      case rest =>
        obtain ⟨V, rfl, hV, HVb, HBc⟩ := hcut
        have HQ : Hid (Q6 w T P X Y U V ta tb pe xa xb ya yb ua ub va vb wc) := ⟨HK15.out.later HBc.out, HX15.out.later HBc.out, HY15.out.later HBc.out, HU15.out.later HBc.out, HVb.out⟩
        clear HK15 HN15 HX15 HY15 HU15 HVb HBc hV HV
        obtain ⟨x0, _⟩ := HQ.out.x.three
        obtain ⟨y0, _⟩ := HQ.out.y.three
        obtain ⟨u0, _⟩ := HQ.out.u.three
        obtain ⟨v0, _⟩ := HQ.out.v.three
        have D1 := of_abs d1
        have D2 := of_abs d2
        have D3 := of_abs d3
        have D4 := of_abs d4
        have k1 : IntKind.i64.wrap (xa - ya) = xa - ya := wrapk_of (by omega) (by omega)
        have k2 : IntKind.i64.wrap (xb - yb) = xb - yb := wrapk_of (by omega) (by omega)
        have k3 : IntKind.i64.wrap (ua - va) = ua - va := wrapk_of (by omega) (by omega)
        have k4 : IntKind.i64.wrap (ub - vb) = ub - vb := wrapk_of (by omega) (by omega)
        have HA1 := hid (fun W => lwAbs_calls (xa - ya) W (by omega) (by omega))
        have HA2 := hid (fun W => lwAbs_calls (xb - yb) W (by omega) (by omega))
        have HA3 := hid (fun W => lwAbs_calls (ua - va) W (by omega) (by omega))
        have HA4 := hid (fun W => lwAbs_calls (ub - vb) W (by omega) (by omega))
        clear D1 D2 D3 D4 s1 s2 s3
        have hQd := HQ.out.later (Below.refl _ _).drew
        go_wp2_with fail
        clear x0 y0 u0 v0
        refine wp_region_noPanic ?_
        refine wp_region_held_drew (S := fun W => Q6 w T P X Y U V ta tb pe xa xb ya yb ua ub va vb W) (by kernel_rfl) ?_ (fun hHeld => ?_)
        · first | exact hK2 | exact hK1 | exact hHeld | exact hQd
        (refine wpAnyH_take (i := 0) (v := ?_) rfl (by kernel_rfl) (by kernel_rfl) (by kernel_rfl) (fun _ _ _ h => h) (Or.inl ⟨by rfl, ?_⟩) hHeld ?_; rotate_left; (intro w hSw; (obtain ⟨t0, t1, t2, _⟩ := hSw.q.t.three; obtain ⟨p0, p1, p2, _⟩ := hSw.q.p.three; obtain ⟨x0, x1, x2, _⟩ := hSw.x.three; obtain ⟨y0, y1, y2, _⟩ := hSw.y.three; obtain ⟨u0, u1, u2, _⟩ := hSw.u.three; obtain ⟨v0, v1, v2, _⟩ := hSw.v.three; clear hSw); (go_simp <;> with_reducible rfl)); simp only [List.getElem_toArray, List.getElem_cons_zero, Act.put, List.setIfInBounds_toArray, List.set_cons_zero, List.set_cons_succ])
        (refine wpAnyH_take (i := 1) (v := ?_) rfl (by kernel_rfl) (by kernel_rfl) (by kernel_rfl) (fun _ _ _ h => h) (Or.inl ⟨by rfl, ?_⟩) hHeld ?_; rotate_left; (intro w hSw; (obtain ⟨t0, t1, t2, _⟩ := hSw.q.t.three; obtain ⟨p0, p1, p2, _⟩ := hSw.q.p.three; obtain ⟨x0, x1, x2, _⟩ := hSw.x.three; obtain ⟨y0, y1, y2, _⟩ := hSw.y.three; obtain ⟨u0, u1, u2, _⟩ := hSw.u.three; obtain ⟨v0, v1, v2, _⟩ := hSw.v.three; clear hSw); (go_simp <;> with_reducible rfl)); simp only [List.getElem_toArray, List.getElem_cons_zero, List.getElem_cons_succ, Act.put, List.setIfInBounds_toArray, List.set_cons_zero, List.set_cons_succ])
        (refine wpAnyH_take (i := 2) (v := ?_) rfl (by kernel_rfl) (by kernel_rfl) (by kernel_rfl) (fun _ _ _ h => h) (Or.inl ⟨by rfl, ?_⟩) hHeld ?_; rotate_left; (intro w hSw; (obtain ⟨t0, t1, t2, _⟩ := hSw.q.t.three; obtain ⟨p0, p1, p2, _⟩ := hSw.q.p.three; obtain ⟨x0, x1, x2, _⟩ := hSw.x.three; obtain ⟨y0, y1, y2, _⟩ := hSw.y.three; obtain ⟨u0, u1, u2, _⟩ := hSw.u.three; obtain ⟨v0, v1, v2, _⟩ := hSw.v.three; clear hSw); (go_simp <;> with_reducible rfl)); simp only [List.getElem_toArray, List.getElem_cons_zero, List.getElem_cons_succ, Act.put, List.setIfInBounds_toArray, List.set_cons_zero, List.set_cons_succ])
        (refine wpAnyH_take (i := 3) (v := ?_) rfl (by kernel_rfl) (by kernel_rfl) (by kernel_rfl) (fun _ _ _ h => h) (Or.inl ⟨by rfl, ?_⟩) hHeld ?_; rotate_left; (intro w hSw; (obtain ⟨t0, t1, t2, _⟩ := hSw.q.t.three; obtain ⟨p0, p1, p2, _⟩ := hSw.q.p.three; obtain ⟨x0, x1, x2, _⟩ := hSw.x.three; obtain ⟨y0, y1, y2, _⟩ := hSw.y.three; obtain ⟨u0, u1, u2, _⟩ := hSw.u.three; obtain ⟨v0, v1, v2, _⟩ := hSw.v.three; clear hSw); (go_simp <;> with_reducible rfl)); simp only [List.getElem_toArray, List.getElem_cons_zero, List.getElem_cons_succ, Act.put, List.setIfInBounds_toArray, List.set_cons_zero, List.set_cons_succ])
        (refine wpAnyH_take (i := 4) (v := ?_) rfl (by kernel_rfl) (by kernel_rfl) (by kernel_rfl) (fun _ _ _ h => h) (Or.inl ⟨by rfl, ?_⟩) hHeld ?_; rotate_left; (intro w hSw; (obtain ⟨t0, t1, t2, _⟩ := hSw.q.t.three; obtain ⟨p0, p1, p2, _⟩ := hSw.q.p.three; obtain ⟨x0, x1, x2, _⟩ := hSw.x.three; obtain ⟨y0, y1, y2, _⟩ := hSw.y.three; obtain ⟨u0, u1, u2, _⟩ := hSw.u.three; obtain ⟨v0, v1, v2, _⟩ := hSw.v.three; clear hSw); (go_simp <;> with_reducible rfl)); simp only [List.getElem_toArray, List.getElem_cons_zero, List.getElem_cons_succ, Act.put, List.setIfInBounds_toArray, List.set_cons_zero, List.set_cons_succ])
        (refine wpAnyH_take (i := 6) (v := ?_) rfl (by kernel_rfl) (by kernel_rfl) (by kernel_rfl) (fun _ _ _ h => h) (Or.inl ⟨by rfl, ?_⟩) hHeld ?_; rotate_left; (intro w hSw; (obtain ⟨t0, t1, t2, _⟩ := hSw.q.t.three; obtain ⟨p0, p1, p2, _⟩ := hSw.q.p.three; obtain ⟨x0, x1, x2, _⟩ := hSw.x.three; obtain ⟨y0, y1, y2, _⟩ := hSw.y.three; obtain ⟨u0, u1, u2, _⟩ := hSw.u.three; obtain ⟨v0, v1, v2, _⟩ := hSw.v.three; clear hSw); (go_simp <;> with_reducible rfl)); simp only [List.getElem_toArray, List.getElem_cons_zero, List.getElem_cons_succ, Act.put, List.setIfInBounds_toArray, List.set_cons_zero, List.set_cons_succ])
        (refine wpAnyH_take (i := 7) (v := ?_) rfl (by kernel_rfl) (by kernel_rfl) (by kernel_rfl) (fun _ _ _ h => h) (Or.inl ⟨by rfl, ?_⟩) hHeld ?_; rotate_left; (intro w hSw; (obtain ⟨t0, t1, t2, _⟩ := hSw.q.t.three; obtain ⟨p0, p1, p2, _⟩ := hSw.q.p.three; obtain ⟨x0, x1, x2, _⟩ := hSw.x.three; obtain ⟨y0, y1, y2, _⟩ := hSw.y.three; obtain ⟨u0, u1, u2, _⟩ := hSw.u.three; obtain ⟨v0, v1, v2, _⟩ := hSw.v.three; clear hSw); (go_simp <;> with_reducible rfl)); simp only [List.getElem_toArray, List.getElem_cons_zero, List.getElem_cons_succ, Act.put, List.setIfInBounds_toArray, List.set_cons_zero, List.set_cons_succ])
        (refine wpAnyH_ready (rs := [5]) (by kernel_rfl) (by simp) ?_; refine AllReadyH.cons rfl (fun K hK => ?_) AllReadyH.nil; go_simp; (refine (HA1.out _).mono ?_; rintro e w9 ⟨rfl, rfl⟩); refine hK.out _ _ ?_ (fun hHeld => ?_); (first | exact hK2 | exact hK1 | exact hHeld | exact hQd); clear hK K; try dsimp only)
        (refine wpAnyH_take (i := 8) (v := ?_) rfl (by kernel_rfl) (by kernel_rfl) (by kernel_rfl) (fun _ _ _ h => h) (Or.inl ⟨by rfl, ?_⟩) hHeld ?_; rotate_left; (intro w hSw; (obtain ⟨t0, t1, t2, _⟩ := hSw.q.t.three; obtain ⟨p0, p1, p2, _⟩ := hSw.q.p.three; obtain ⟨x0, x1, x2, _⟩ := hSw.x.three; obtain ⟨y0, y1, y2, _⟩ := hSw.y.three; obtain ⟨u0, u1, u2, _⟩ := hSw.u.three; obtain ⟨v0, v1, v2, _⟩ := hSw.v.three; clear hSw); (go_simp <;> with_reducible rfl)); simp only [List.getElem_toArray, List.getElem_cons_zero, List.getElem_cons_succ, Act.put, List.setIfInBounds_toArray, List.set_cons_zero, List.set_cons_succ])
        (refine wpAnyH_take (i := 9) (v := ?_) rfl (by kernel_rfl) (by kernel_rfl) (by kernel_rfl) (fun _ _ _ h => h) (Or.inl ⟨by rfl, ?_⟩) hHeld ?_; rotate_left; (intro w hSw; (obtain ⟨t0, t1, t2, _⟩ := hSw.q.t.three; obtain ⟨p0, p1, p2, _⟩ := hSw.q.p.three; obtain ⟨x0, x1, x2, _⟩ := hSw.x.three; obtain ⟨y0, y1, y2, _⟩ := hSw.y.three; obtain ⟨u0, u1, u2, _⟩ := hSw.u.three; obtain ⟨v0, v1, v2, _⟩ := hSw.v.three; clear hSw); (go_simp <;> with_reducible rfl)); simp only [List.getElem_toArray, List.getElem_cons_zero, List.getElem_cons_succ, Act.put, List.setIfInBounds_toArray, List.set_cons_zero, List.set_cons_succ])
        first | (refine wpAnyH_take (i := 10) (v := ?_) rfl (by kernel_rfl) (by kernel_rfl) (by kernel_rfl) (fun _ _ _ h => h) (Or.inl ⟨by rfl, ?_⟩) hHeld ?_; rotate_left; (intro w hSw; (obtain ⟨t0, t1, t2, _⟩ := hSw.q.t.three; obtain ⟨p0, p1, p2, _⟩ := hSw.q.p.three; obtain ⟨x0, x1, x2, _⟩ := hSw.x.three; obtain ⟨y0, y1, y2, _⟩ := hSw.y.three; obtain ⟨u0, u1, u2, _⟩ := hSw.u.three; obtain ⟨v0, v1, v2, _⟩ := hSw.v.three; clear hSw); (go_simp <;> with_reducible rfl)); simp only [List.getElem_toArray, List.getElem_cons_zero, List.getElem_cons_succ, Act.put, List.setIfInBounds_toArray, List.set_cons_zero, List.set_cons_succ]) | (refine wpAnyH_take (i := 10) (v := undef) rfl (by kernel_rfl) (by kernel_rfl) (by kernel_rfl) (fun _ _ _ h => h) (Or.inr ⟨by rfl, rfl⟩) hHeld ?_; simp only [List.getElem_toArray, List.getElem_cons_zero, List.getElem_cons_succ, Act.put, List.setIfInBounds_toArray, List.set_cons_zero, List.set_cons_succ])
        first | (refine wpAnyH_take (i := 11) (v := ?_) rfl (by kernel_rfl) (by kernel_rfl) (by kernel_rfl) (fun _ _ _ h => h) (Or.inl ⟨by rfl, ?_⟩) hHeld ?_; rotate_left; (intro w hSw; (obtain ⟨t0, t1, t2, _⟩ := hSw.q.t.three; obtain ⟨p0, p1, p2, _⟩ := hSw.q.p.three; obtain ⟨x0, x1, x2, _⟩ := hSw.x.three; obtain ⟨y0, y1, y2, _⟩ := hSw.y.three; obtain ⟨u0, u1, u2, _⟩ := hSw.u.three; obtain ⟨v0, v1, v2, _⟩ := hSw.v.three; clear hSw); (go_simp <;> with_reducible rfl)); simp only [List.getElem_toArray, List.getElem_cons_zero, List.getElem_cons_succ, Act.put, List.setIfInBounds_toArray, List.set_cons_zero, List.set_cons_succ]) | (refine wpAnyH_take (i := 11) (v := undef) rfl (by kernel_rfl) (by kernel_rfl) (by kernel_rfl) (fun _ _ _ h => h) (Or.inr ⟨by rfl, rfl⟩) hHeld ?_; simp only [List.getElem_toArray, List.getElem_cons_zero, List.getElem_cons_succ, Act.put, List.setIfInBounds_toArray, List.set_cons_zero, List.set_cons_succ])
        first | (refine wpAnyH_take (i := 12) (v := ?_) rfl (by kernel_rfl) (by kernel_rfl) (by kernel_rfl) (fun _ _ _ h => h) (Or.inl ⟨by rfl, ?_⟩) hHeld ?_; rotate_left; (intro w hSw; (obtain ⟨t0, t1, t2, _⟩ := hSw.q.t.three; obtain ⟨p0, p1, p2, _⟩ := hSw.q.p.three; obtain ⟨x0, x1, x2, _⟩ := hSw.x.three; obtain ⟨y0, y1, y2, _⟩ := hSw.y.three; obtain ⟨u0, u1, u2, _⟩ := hSw.u.three; obtain ⟨v0, v1, v2, _⟩ := hSw.v.three; clear hSw); (go_simp <;> with_reducible rfl)); simp only [List.getElem_toArray, List.getElem_cons_zero, List.getElem_cons_succ, Act.put, List.setIfInBounds_toArray, List.set_cons_zero, List.set_cons_succ]) | (refine wpAnyH_take (i := 12) (v := undef) rfl (by kernel_rfl) (by kernel_rfl) (by kernel_rfl) (fun _ _ _ h => h) (Or.inr ⟨by rfl, rfl⟩) hHeld ?_; simp only [List.getElem_toArray, List.getElem_cons_zero, List.getElem_cons_succ, Act.put, List.setIfInBounds_toArray, List.set_cons_zero, List.set_cons_succ])
        first | (refine wpAnyH_take (i := 13) (v := ?_) rfl (by kernel_rfl) (by kernel_rfl) (by kernel_rfl) (fun _ _ _ h => h) (Or.inl ⟨by rfl, ?_⟩) hHeld ?_; rotate_left; (intro w hSw; (obtain ⟨t0, t1, t2, _⟩ := hSw.q.t.three; obtain ⟨p0, p1, p2, _⟩ := hSw.q.p.three; obtain ⟨x0, x1, x2, _⟩ := hSw.x.three; obtain ⟨y0, y1, y2, _⟩ := hSw.y.three; obtain ⟨u0, u1, u2, _⟩ := hSw.u.three; obtain ⟨v0, v1, v2, _⟩ := hSw.v.three; clear hSw); (go_simp <;> with_reducible rfl)); simp only [List.getElem_toArray, List.getElem_cons_zero, List.getElem_cons_succ, Act.put, List.setIfInBounds_toArray, List.set_cons_zero, List.set_cons_succ]) | (refine wpAnyH_take (i := 13) (v := undef) rfl (by kernel_rfl) (by kernel_rfl) (by kernel_rfl) (fun _ _ _ h => h) (Or.inr ⟨by rfl, rfl⟩) hHeld ?_; simp only [List.getElem_toArray, List.getElem_cons_zero, List.getElem_cons_succ, Act.put, List.setIfInBounds_toArray, List.set_cons_zero, List.set_cons_succ])
        first | (refine wpAnyH_take (i := 14) (v := ?_) rfl (by kernel_rfl) (by kernel_rfl) (by kernel_rfl) (fun _ _ _ h => h) (Or.inl ⟨by rfl, ?_⟩) hHeld ?_; rotate_left; (intro w hSw; (obtain ⟨t0, t1, t2, _⟩ := hSw.q.t.three; obtain ⟨p0, p1, p2, _⟩ := hSw.q.p.three; obtain ⟨x0, x1, x2, _⟩ := hSw.x.three; obtain ⟨y0, y1, y2, _⟩ := hSw.y.three; obtain ⟨u0, u1, u2, _⟩ := hSw.u.three; obtain ⟨v0, v1, v2, _⟩ := hSw.v.three; clear hSw); (go_simp <;> with_reducible rfl)); simp only [List.getElem_toArray, List.getElem_cons_zero, List.getElem_cons_succ, Act.put, List.setIfInBounds_toArray, List.set_cons_zero, List.set_cons_succ]) | (refine wpAnyH_take (i := 14) (v := undef) rfl (by kernel_rfl) (by kernel_rfl) (by kernel_rfl) (fun _ _ _ h => h) (Or.inr ⟨by rfl, rfl⟩) hHeld ?_; simp only [List.getElem_toArray, List.getElem_cons_zero, List.getElem_cons_succ, Act.put, List.setIfInBounds_toArray, List.set_cons_zero, List.set_cons_succ])
        first | (refine wpAnyH_take (i := 16) (v := ?_) rfl (by kernel_rfl) (by kernel_rfl) (by kernel_rfl) (fun _ _ _ h => h) (Or.inl ⟨by rfl, ?_⟩) hHeld ?_; rotate_left; (intro w hSw; (obtain ⟨t0, t1, t2, _⟩ := hSw.q.t.three; obtain ⟨p0, p1, p2, _⟩ := hSw.q.p.three; obtain ⟨x0, x1, x2, _⟩ := hSw.x.three; obtain ⟨y0, y1, y2, _⟩ := hSw.y.three; obtain ⟨u0, u1, u2, _⟩ := hSw.u.three; obtain ⟨v0, v1, v2, _⟩ := hSw.v.three; clear hSw); (go_simp <;> with_reducible rfl)); simp only [List.getElem_toArray, List.getElem_cons_zero, List.getElem_cons_succ, Act.put, List.setIfInBounds_toArray, List.set_cons_zero, List.set_cons_succ]) | (refine wpAnyH_take (i := 16) (v := undef) rfl (by kernel_rfl) (by kernel_rfl) (by kernel_rfl) (fun _ _ _ h => h) (Or.inr ⟨by rfl, rfl⟩) hHeld ?_; simp only [List.getElem_toArray, List.getElem_cons_zero, List.getElem_cons_succ, Act.put, List.setIfInBounds_toArray, List.set_cons_zero, List.set_cons_succ])
        first | (refine wpAnyH_take (i := 17) (v := ?_) rfl (by kernel_rfl) (by kernel_rfl) (by kernel_rfl) (fun _ _ _ h => h) (Or.inl ⟨by rfl, ?_⟩) hHeld ?_; rotate_left; (intro w hSw; (obtain ⟨t0, t1, t2, _⟩ := hSw.q.t.three; obtain ⟨p0, p1, p2, _⟩ := hSw.q.p.three; obtain ⟨x0, x1, x2, _⟩ := hSw.x.three; obtain ⟨y0, y1, y2, _⟩ := hSw.y.three; obtain ⟨u0, u1, u2, _⟩ := hSw.u.three; obtain ⟨v0, v1, v2, _⟩ := hSw.v.three; clear hSw); (go_simp <;> with_reducible rfl)); simp only [List.getElem_toArray, List.getElem_cons_zero, List.getElem_cons_succ, Act.put, List.setIfInBounds_toArray, List.set_cons_zero, List.set_cons_succ]) | (refine wpAnyH_take (i := 17) (v := undef) rfl (by kernel_rfl) (by kernel_rfl) (by kernel_rfl) (fun _ _ _ h => h) (Or.inr ⟨by rfl, rfl⟩) hHeld ?_; simp only [List.getElem_toArray, List.getElem_cons_zero, List.getElem_cons_succ, Act.put, List.setIfInBounds_toArray, List.set_cons_zero, List.set_cons_succ])
        first | (refine wpAnyH_take (i := 15) (v := undef) rfl (by kernel_rfl) (by kernel_rfl) (by kernel_rfl) (fun _ _ _ h => h) (Or.inr ⟨by rfl, rfl⟩) hHeld ?_; simp only [List.getElem_toArray, List.getElem_cons_zero, List.getElem_cons_succ, Act.put, List.setIfInBounds_toArray, List.set_cons_zero, List.set_cons_succ]) | (refine wpAnyH_ready (rs := [15]) (by kernel_rfl) (by simp) ?_; refine AllReadyH.cons rfl (fun K hK => ?_) AllReadyH.nil; go_simp; (refine (HA2.out _).mono ?_; rintro e w9 ⟨rfl, rfl⟩); refine hK.out _ _ ?_ (fun hHeld => ?_); (first | exact hK2 | exact hK1 | exact hHeld | exact hQd); clear hK K; try dsimp only)
        first | (refine wpAnyH_take (i := 18) (v := ?_) rfl (by kernel_rfl) (by kernel_rfl) (by kernel_rfl) (fun _ _ _ h => h) (Or.inl ⟨by rfl, ?_⟩) hHeld ?_; rotate_left; (intro w hSw; (obtain ⟨t0, t1, t2, _⟩ := hSw.q.t.three; obtain ⟨p0, p1, p2, _⟩ := hSw.q.p.three; obtain ⟨x0, x1, x2, _⟩ := hSw.x.three; obtain ⟨y0, y1, y2, _⟩ := hSw.y.three; obtain ⟨u0, u1, u2, _⟩ := hSw.u.three; obtain ⟨v0, v1, v2, _⟩ := hSw.v.three; clear hSw); (go_simp <;> with_reducible rfl)); simp only [List.getElem_toArray, List.getElem_cons_zero, List.getElem_cons_succ, Act.put, List.setIfInBounds_toArray, List.set_cons_zero, List.set_cons_succ]) | (refine wpAnyH_take (i := 18) (v := undef) rfl (by kernel_rfl) (by kernel_rfl) (by kernel_rfl) (fun _ _ _ h => h) (Or.inr ⟨by rfl, rfl⟩) hHeld ?_; simp only [List.getElem_toArray, List.getElem_cons_zero, List.getElem_cons_succ, Act.put, List.setIfInBounds_toArray, List.set_cons_zero, List.set_cons_succ])
        (refine wpAnyH_take (i := 19) (v := ?_) rfl (by kernel_rfl) (by kernel_rfl) (by kernel_rfl) (fun _ _ _ h => h) (Or.inl ⟨by rfl, ?_⟩) hHeld ?_; rotate_left; (intro w hSw; (obtain ⟨t0, t1, t2, _⟩ := hSw.q.t.three; obtain ⟨p0, p1, p2, _⟩ := hSw.q.p.three; obtain ⟨x0, x1, x2, _⟩ := hSw.x.three; obtain ⟨y0, y1, y2, _⟩ := hSw.y.three; obtain ⟨u0, u1, u2, _⟩ := hSw.u.three; obtain ⟨v0, v1, v2, _⟩ := hSw.v.three; clear hSw); (go_simp <;> with_reducible rfl)); simp only [List.getElem_toArray, List.getElem_cons_zero, List.getElem_cons_succ, Act.put, List.setIfInBounds_toArray, List.set_cons_zero, List.set_cons_succ])
        (refine wpAnyH_take (i := 20) (v := ?_) rfl (by kernel_rfl) (by kernel_rfl) (by kernel_rfl) (fun _ _ _ h => h) (Or.inl ⟨by rfl, ?_⟩) hHeld ?_; rotate_left; (intro w hSw; (obtain ⟨t0, t1, t2, _⟩ := hSw.q.t.three; obtain ⟨p0, p1, p2, _⟩ := hSw.q.p.three; obtain ⟨x0, x1, x2, _⟩ := hSw.x.three; obtain ⟨y0, y1, y2, _⟩ := hSw.y.three; obtain ⟨u0, u1, u2, _⟩ := hSw.u.three; obtain ⟨v0, v1, v2, _⟩ := hSw.v.three; clear hSw); (go_simp <;> with_reducible rfl)); simp only [List.getElem_toArray, List.getElem_cons_zero, List.getElem_cons_succ, Act.put, List.setIfInBounds_toArray, List.set_cons_zero, List.set_cons_succ])
        first | (refine wpAnyH_take (i := 21) (v := ?_) rfl (by kernel_rfl) (by kernel_rfl) (by kernel_rfl) (fun _ _ _ h => h) (Or.inl ⟨by rfl, ?_⟩) hHeld ?_; rotate_left; (intro w hSw; (obtain ⟨t0, t1, t2, _⟩ := hSw.q.t.three; obtain ⟨p0, p1, p2, _⟩ := hSw.q.p.three; obtain ⟨x0, x1, x2, _⟩ := hSw.x.three; obtain ⟨y0, y1, y2, _⟩ := hSw.y.three; obtain ⟨u0, u1, u2, _⟩ := hSw.u.three; obtain ⟨v0, v1, v2, _⟩ := hSw.v.three; clear hSw); (go_simp <;> with_reducible rfl)); simp only [List.getElem_toArray, List.getElem_cons_zero, List.getElem_cons_succ, Act.put, List.setIfInBounds_toArray, List.set_cons_zero, List.set_cons_succ]) | (refine wpAnyH_take (i := 21) (v := undef) rfl (by kernel_rfl) (by kernel_rfl) (by kernel_rfl) (fun _ _ _ h => h) (Or.inr ⟨by rfl, rfl⟩) hHeld ?_; simp only [List.getElem_toArray, List.getElem_cons_zero, List.getElem_cons_succ, Act.put, List.setIfInBounds_toArray, List.set_cons_zero, List.set_cons_succ])
        first | (refine wpAnyH_take (i := 22) (v := ?_) rfl (by kernel_rfl) (by kernel_rfl) (by kernel_rfl) (fun _ _ _ h => h) (Or.inl ⟨by rfl, ?_⟩) hHeld ?_; rotate_left; (intro w hSw; (obtain ⟨t0, t1, t2, _⟩ := hSw.q.t.three; obtain ⟨p0, p1, p2, _⟩ := hSw.q.p.three; obtain ⟨x0, x1, x2, _⟩ := hSw.x.three; obtain ⟨y0, y1, y2, _⟩ := hSw.y.three; obtain ⟨u0, u1, u2, _⟩ := hSw.u.three; obtain ⟨v0, v1, v2, _⟩ := hSw.v.three; clear hSw); (go_simp <;> with_reducible rfl)); simp only [List.getElem_toArray, List.getElem_cons_zero, List.getElem_cons_succ, Act.put, List.setIfInBounds_toArray, List.set_cons_zero, List.set_cons_succ]) | (refine wpAnyH_take (i := 22) (v := undef) rfl (by kernel_rfl) (by kernel_rfl) (by kernel_rfl) (fun _ _ _ h => h) (Or.inr ⟨by rfl, rfl⟩) hHeld ?_; simp only [List.getElem_toArray, List.getElem_cons_zero, List.getElem_cons_succ, Act.put, List.setIfInBounds_toArray, List.set_cons_zero, List.set_cons_succ])
        first | (refine wpAnyH_take (i := 23) (v := ?_) rfl (by kernel_rfl) (by kernel_rfl) (by kernel_rfl) (fun _ _ _ h => h) (Or.inl ⟨by rfl, ?_⟩) hHeld ?_; rotate_left; (intro w hSw; (obtain ⟨t0, t1, t2, _⟩ := hSw.q.t.three; obtain ⟨p0, p1, p2, _⟩ := hSw.q.p.three; obtain ⟨x0, x1, x2, _⟩ := hSw.x.three; obtain ⟨y0, y1, y2, _⟩ := hSw.y.three; obtain ⟨u0, u1, u2, _⟩ := hSw.u.three; obtain ⟨v0, v1, v2, _⟩ := hSw.v.three; clear hSw); (go_simp <;> with_reducible rfl)); simp only [List.getElem_toArray, List.getElem_cons_zero, List.getElem_cons_succ, Act.put, List.setIfInBounds_toArray, List.set_cons_zero, List.set_cons_succ]) | (refine wpAnyH_take (i := 23) (v := undef) rfl (by kernel_rfl) (by kernel_rfl) (by kernel_rfl) (fun _ _ _ h => h) (Or.inr ⟨by rfl, rfl⟩) hHeld ?_; simp only [List.getElem_toArray, List.getElem_cons_zero, List.getElem_cons_succ, Act.put, List.setIfInBounds_toArray, List.set_cons_zero, List.set_cons_succ])
        first | (refine wpAnyH_take (i := 24) (v := ?_) rfl (by kernel_rfl) (by kernel_rfl) (by kernel_rfl) (fun _ _ _ h => h) (Or.inl ⟨by rfl, ?_⟩) hHeld ?_; rotate_left; (intro w hSw; (obtain ⟨t0, t1, t2, _⟩ := hSw.q.t.three; obtain ⟨p0, p1, p2, _⟩ := hSw.q.p.three; obtain ⟨x0, x1, x2, _⟩ := hSw.x.three; obtain ⟨y0, y1, y2, _⟩ := hSw.y.three; obtain ⟨u0, u1, u2, _⟩ := hSw.u.three; obtain ⟨v0, v1, v2, _⟩ := hSw.v.three; clear hSw); (go_simp <;> with_reducible rfl)); simp only [List.getElem_toArray, List.getElem_cons_zero, List.getElem_cons_succ, Act.put, List.setIfInBounds_toArray, List.set_cons_zero, List.set_cons_succ]) | (refine wpAnyH_take (i := 24) (v := undef) rfl (by kernel_rfl) (by kernel_rfl) (by kernel_rfl) (fun _ _ _ h => h) (Or.inr ⟨by rfl, rfl⟩) hHeld ?_; simp only [List.getElem_toArray, List.getElem_cons_zero, List.getElem_cons_succ, Act.put, List.setIfInBounds_toArray, List.set_cons_zero, List.set_cons_succ])
        first | (refine wpAnyH_take (i := 25) (v := ?_) rfl (by kernel_rfl) (by kernel_rfl) (by kernel_rfl) (fun _ _ _ h => h) (Or.inl ⟨by rfl, ?_⟩) hHeld ?_; rotate_left; (intro w hSw; (obtain ⟨t0, t1, t2, _⟩ := hSw.q.t.three; obtain ⟨p0, p1, p2, _⟩ := hSw.q.p.three; obtain ⟨x0, x1, x2, _⟩ := hSw.x.three; obtain ⟨y0, y1, y2, _⟩ := hSw.y.three; obtain ⟨u0, u1, u2, _⟩ := hSw.u.three; obtain ⟨v0, v1, v2, _⟩ := hSw.v.three; clear hSw); (go_simp <;> with_reducible rfl)); simp only [List.getElem_toArray, List.getElem_cons_zero, List.getElem_cons_succ, Act.put, List.setIfInBounds_toArray, List.set_cons_zero, List.set_cons_succ]) | (refine wpAnyH_take (i := 25) (v := undef) rfl (by kernel_rfl) (by kernel_rfl) (by kernel_rfl) (fun _ _ _ h => h) (Or.inr ⟨by rfl, rfl⟩) hHeld ?_; simp only [List.getElem_toArray, List.getElem_cons_zero, List.getElem_cons_succ, Act.put, List.setIfInBounds_toArray, List.set_cons_zero, List.set_cons_succ])
        first | (refine wpAnyH_take (i := 27) (v := ?_) rfl (by kernel_rfl) (by kernel_rfl) (by kernel_rfl) (fun _ _ _ h => h) (Or.inl ⟨by rfl, ?_⟩) hHeld ?_; rotate_left; (intro w hSw; (obtain ⟨t0, t1, t2, _⟩ := hSw.q.t.three; obtain ⟨p0, p1, p2, _⟩ := hSw.q.p.three; obtain ⟨x0, x1, x2, _⟩ := hSw.x.three; obtain ⟨y0, y1, y2, _⟩ := hSw.y.three; obtain ⟨u0, u1, u2, _⟩ := hSw.u.three; obtain ⟨v0, v1, v2, _⟩ := hSw.v.three; clear hSw); (go_simp <;> with_reducible rfl)); simp only [List.getElem_toArray, List.getElem_cons_zero, List.getElem_cons_succ, Act.put, List.setIfInBounds_toArray, List.set_cons_zero, List.set_cons_succ]) | (refine wpAnyH_take (i := 27) (v := undef) rfl (by kernel_rfl) (by kernel_rfl) (by kernel_rfl) (fun _ _ _ h => h) (Or.inr ⟨by rfl, rfl⟩) hHeld ?_; simp only [List.getElem_toArray, List.getElem_cons_zero, List.getElem_cons_succ, Act.put, List.setIfInBounds_toArray, List.set_cons_zero, List.set_cons_succ])
        first | (refine wpAnyH_take (i := 28) (v := ?_) rfl (by kernel_rfl) (by kernel_rfl) (by kernel_rfl) (fun _ _ _ h => h) (Or.inl ⟨by rfl, ?_⟩) hHeld ?_; rotate_left; (intro w hSw; (obtain ⟨t0, t1, t2, _⟩ := hSw.q.t.three; obtain ⟨p0, p1, p2, _⟩ := hSw.q.p.three; obtain ⟨x0, x1, x2, _⟩ := hSw.x.three; obtain ⟨y0, y1, y2, _⟩ := hSw.y.three; obtain ⟨u0, u1, u2, _⟩ := hSw.u.three; obtain ⟨v0, v1, v2, _⟩ := hSw.v.three; clear hSw); (go_simp <;> with_reducible rfl)); simp only [List.getElem_toArray, List.getElem_cons_zero, List.getElem_cons_succ, Act.put, List.setIfInBounds_toArray, List.set_cons_zero, List.set_cons_succ]) | (refine wpAnyH_take (i := 28) (v := undef) rfl (by kernel_rfl) (by kernel_rfl) (by kernel_rfl) (fun _ _ _ h => h) (Or.inr ⟨by rfl, rfl⟩) hHeld ?_; simp only [List.getElem_toArray, List.getElem_cons_zero, List.getElem_cons_succ, Act.put, List.setIfInBounds_toArray, List.set_cons_zero, List.set_cons_succ])
        first | (refine wpAnyH_take (i := 26) (v := undef) rfl (by kernel_rfl) (by kernel_rfl) (by kernel_rfl) (fun _ _ _ h => h) (Or.inr ⟨by rfl, rfl⟩) hHeld ?_; simp only [List.getElem_toArray, List.getElem_cons_zero, List.getElem_cons_succ, Act.put, List.setIfInBounds_toArray, List.set_cons_zero, List.set_cons_succ]) | (refine wpAnyH_ready (rs := [26]) (by kernel_rfl) (by simp) ?_; refine AllReadyH.cons rfl (fun K hK => ?_) AllReadyH.nil; go_simp; (refine (HA3.out _).mono ?_; rintro e w9 ⟨rfl, rfl⟩); refine hK.out _ _ ?_ (fun hHeld => ?_); (first | exact hK2 | exact hK1 | exact hHeld | exact hQd); clear hK K; try dsimp only)
        first | (refine wpAnyH_take (i := 29) (v := ?_) rfl (by kernel_rfl) (by kernel_rfl) (by kernel_rfl) (fun _ _ _ h => h) (Or.inl ⟨by rfl, ?_⟩) hHeld ?_; rotate_left; (intro w hSw; (obtain ⟨t0, t1, t2, _⟩ := hSw.q.t.three; obtain ⟨p0, p1, p2, _⟩ := hSw.q.p.three; obtain ⟨x0, x1, x2, _⟩ := hSw.x.three; obtain ⟨y0, y1, y2, _⟩ := hSw.y.three; obtain ⟨u0, u1, u2, _⟩ := hSw.u.three; obtain ⟨v0, v1, v2, _⟩ := hSw.v.three; clear hSw); (go_simp <;> with_reducible rfl)); simp only [List.getElem_toArray, List.getElem_cons_zero, List.getElem_cons_succ, Act.put, List.setIfInBounds_toArray, List.set_cons_zero, List.set_cons_succ]) | (refine wpAnyH_take (i := 29) (v := undef) rfl (by kernel_rfl) (by kernel_rfl) (by kernel_rfl) (fun _ _ _ h => h) (Or.inr ⟨by rfl, rfl⟩) hHeld ?_; simp only [List.getElem_toArray, List.getElem_cons_zero, List.getElem_cons_succ, Act.put, List.setIfInBounds_toArray, List.set_cons_zero, List.set_cons_succ])
        (refine wpAnyH_take (i := 30) (v := ?_) rfl (by kernel_rfl) (by kernel_rfl) (by kernel_rfl) (fun _ _ _ h => h) (Or.inl ⟨by rfl, ?_⟩) hHeld ?_; rotate_left; (intro w hSw; (obtain ⟨t0, t1, t2, _⟩ := hSw.q.t.three; obtain ⟨p0, p1, p2, _⟩ := hSw.q.p.three; obtain ⟨x0, x1, x2, _⟩ := hSw.x.three; obtain ⟨y0, y1, y2, _⟩ := hSw.y.three; obtain ⟨u0, u1, u2, _⟩ := hSw.u.three; obtain ⟨v0, v1, v2, _⟩ := hSw.v.three; clear hSw); (go_simp <;> with_reducible rfl)); simp only [List.getElem_toArray, List.getElem_cons_zero, List.getElem_cons_succ, Act.put, List.setIfInBounds_toArray, List.set_cons_zero, List.set_cons_succ])
        (refine wpAnyH_take (i := 31) (v := ?_) rfl (by kernel_rfl) (by kernel_rfl) (by kernel_rfl) (fun _ _ _ h => h) (Or.inl ⟨by rfl, ?_⟩) hHeld ?_; rotate_left; (intro w hSw; (obtain ⟨t0, t1, t2, _⟩ := hSw.q.t.three; obtain ⟨p0, p1, p2, _⟩ := hSw.q.p.three; obtain ⟨x0, x1, x2, _⟩ := hSw.x.three; obtain ⟨y0, y1, y2, _⟩ := hSw.y.three; obtain ⟨u0, u1, u2, _⟩ := hSw.u.three; obtain ⟨v0, v1, v2, _⟩ := hSw.v.three; clear hSw); (go_simp <;> with_reducible rfl)); simp only [List.getElem_toArray, List.getElem_cons_zero, List.getElem_cons_succ, Act.put, List.setIfInBounds_toArray, List.set_cons_zero, List.set_cons_succ])
        first | (refine wpAnyH_take (i := 32) (v := ?_) rfl (by kernel_rfl) (by kernel_rfl) (by kernel_rfl) (fun _ _ _ h => h) (Or.inl ⟨by rfl, ?_⟩) hHeld ?_; rotate_left; (intro w hSw; (obtain ⟨t0, t1, t2, _⟩ := hSw.q.t.three; obtain ⟨p0, p1, p2, _⟩ := hSw.q.p.three; obtain ⟨x0, x1, x2, _⟩ := hSw.x.three; obtain ⟨y0, y1, y2, _⟩ := hSw.y.three; obtain ⟨u0, u1, u2, _⟩ := hSw.u.three; obtain ⟨v0, v1, v2, _⟩ := hSw.v.three; clear hSw); (go_simp <;> with_reducible rfl)); simp only [List.getElem_toArray, List.getElem_cons_zero, List.getElem_cons_succ, Act.put, List.setIfInBounds_toArray, List.set_cons_zero, List.set_cons_succ]) | (refine wpAnyH_take (i := 32) (v := undef) rfl (by kernel_rfl) (by kernel_rfl) (by kernel_rfl) (fun _ _ _ h => h) (Or.inr ⟨by rfl, rfl⟩) hHeld ?_; simp only [List.getElem_toArray, List.getElem_cons_zero, List.getElem_cons_succ, Act.put, List.setIfInBounds_toArray, List.set_cons_zero, List.set_cons_succ])
        first | (refine wpAnyH_take (i := 33) (v := ?_) rfl (by kernel_rfl) (by kernel_rfl) (by kernel_rfl) (fun _ _ _ h => h) (Or.inl ⟨by rfl, ?_⟩) hHeld ?_; rotate_left; (intro w hSw; (obtain ⟨t0, t1, t2, _⟩ := hSw.q.t.three; obtain ⟨p0, p1, p2, _⟩ := hSw.q.p.three; obtain ⟨x0, x1, x2, _⟩ := hSw.x.three; obtain ⟨y0, y1, y2, _⟩ := hSw.y.three; obtain ⟨u0, u1, u2, _⟩ := hSw.u.three; obtain ⟨v0, v1, v2, _⟩ := hSw.v.three; clear hSw); (go_simp <;> with_reducible rfl)); simp only [List.getElem_toArray, List.getElem_cons_zero, List.getElem_cons_succ, Act.put, List.setIfInBounds_toArray, List.set_cons_zero, List.set_cons_succ]) | (refine wpAnyH_take (i := 33) (v := undef) rfl (by kernel_rfl) (by kernel_rfl) (by kernel_rfl) (fun _ _ _ h => h) (Or.inr ⟨by rfl, rfl⟩) hHeld ?_; simp only [List.getElem_toArray, List.getElem_cons_zero, List.getElem_cons_succ, Act.put, List.setIfInBounds_toArray, List.set_cons_zero, List.set_cons_succ])
        first | (refine wpAnyH_take (i := 34) (v := ?_) rfl (by kernel_rfl) (by kernel_rfl) (by kernel_rfl) (fun _ _ _ h => h) (Or.inl ⟨by rfl, ?_⟩) hHeld ?_; rotate_left; (intro w hSw; (obtain ⟨t0, t1, t2, _⟩ := hSw.q.t.three; obtain ⟨p0, p1, p2, _⟩ := hSw.q.p.three; obtain ⟨x0, x1, x2, _⟩ := hSw.x.three; obtain ⟨y0, y1, y2, _⟩ := hSw.y.three; obtain ⟨u0, u1, u2, _⟩ := hSw.u.three; obtain ⟨v0, v1, v2, _⟩ := hSw.v.three; clear hSw); (go_simp <;> with_reducible rfl)); simp only [List.getElem_toArray, List.getElem_cons_zero, List.getElem_cons_succ, Act.put, List.setIfInBounds_toArray, List.set_cons_zero, List.set_cons_succ]) | (refine wpAnyH_take (i := 34) (v := undef) rfl (by kernel_rfl) (by kernel_rfl) (by kernel_rfl) (fun _ _ _ h => h) (Or.inr ⟨by rfl, rfl⟩) hHeld ?_; simp only [List.getElem_toArray, List.getElem_cons_zero, List.getElem_cons_succ, Act.put, List.setIfInBounds_toArray, List.set_cons_zero, List.set_cons_succ])
        first | (refine wpAnyH_take (i := 35) (v := ?_) rfl (by kernel_rfl) (by kernel_rfl) (by kernel_rfl) (fun _ _ _ h => h) (Or.inl ⟨by rfl, ?_⟩) hHeld ?_; rotate_left; (intro w hSw; (obtain ⟨t0, t1, t2, _⟩ := hSw.q.t.three; obtain ⟨p0, p1, p2, _⟩ := hSw.q.p.three; obtain ⟨x0, x1, x2, _⟩ := hSw.x.three; obtain ⟨y0, y1, y2, _⟩ := hSw.y.three; obtain ⟨u0, u1, u2, _⟩ := hSw.u.three; obtain ⟨v0, v1, v2, _⟩ := hSw.v.three; clear hSw); (go_simp <;> with_reducible rfl)); simp only [List.getElem_toArray, List.getElem_cons_zero, List.getElem_cons_succ, Act.put, List.setIfInBounds_toArray, List.set_cons_zero, List.set_cons_succ]) | (refine wpAnyH_take (i := 35) (v := undef) rfl (by kernel_rfl) (by kernel_rfl) (by kernel_rfl) (fun _ _ _ h => h) (Or.inr ⟨by rfl, rfl⟩) hHeld ?_; simp only [List.getElem_toArray, List.getElem_cons_zero, List.getElem_cons_succ, Act.put, List.setIfInBounds_toArray, List.set_cons_zero, List.set_cons_succ])
        first | (refine wpAnyH_take (i := 36) (v := ?_) rfl (by kernel_rfl) (by kernel_rfl) (by kernel_rfl) (fun _ _ _ h => h) (Or.inl ⟨by rfl, ?_⟩) hHeld ?_; rotate_left; (intro w hSw; (obtain ⟨t0, t1, t2, _⟩ := hSw.q.t.three; obtain ⟨p0, p1, p2, _⟩ := hSw.q.p.three; obtain ⟨x0, x1, x2, _⟩ := hSw.x.three; obtain ⟨y0, y1, y2, _⟩ := hSw.y.three; obtain ⟨u0, u1, u2, _⟩ := hSw.u.three; obtain ⟨v0, v1, v2, _⟩ := hSw.v.three; clear hSw); (go_simp <;> with_reducible rfl)); simp only [List.getElem_toArray, List.getElem_cons_zero, List.getElem_cons_succ, Act.put, List.setIfInBounds_toArray, List.set_cons_zero, List.set_cons_succ]) | (refine wpAnyH_take (i := 36) (v := undef) rfl (by kernel_rfl) (by kernel_rfl) (by kernel_rfl) (fun _ _ _ h => h) (Or.inr ⟨by rfl, rfl⟩) hHeld ?_; simp only [List.getElem_toArray, List.getElem_cons_zero, List.getElem_cons_succ, Act.put, List.setIfInBounds_toArray, List.set_cons_zero, List.set_cons_succ])
        first | (refine wpAnyH_take (i := 38) (v := ?_) rfl (by kernel_rfl) (by kernel_rfl) (by kernel_rfl) (fun _ _ _ h => h) (Or.inl ⟨by rfl, ?_⟩) hHeld ?_; rotate_left; (intro w hSw; (obtain ⟨t0, t1, t2, _⟩ := hSw.q.t.three; obtain ⟨p0, p1, p2, _⟩ := hSw.q.p.three; obtain ⟨x0, x1, x2, _⟩ := hSw.x.three; obtain ⟨y0, y1, y2, _⟩ := hSw.y.three; obtain ⟨u0, u1, u2, _⟩ := hSw.u.three; obtain ⟨v0, v1, v2, _⟩ := hSw.v.three; clear hSw); (go_simp <;> with_reducible rfl)); simp only [List.getElem_toArray, List.getElem_cons_zero, List.getElem_cons_succ, Act.put, List.setIfInBounds_toArray, List.set_cons_zero, List.set_cons_succ]) | (refine wpAnyH_take (i := 38) (v := undef) rfl (by kernel_rfl) (by kernel_rfl) (by kernel_rfl) (fun _ _ _ h => h) (Or.inr ⟨by rfl, rfl⟩) hHeld ?_; simp only [List.getElem_toArray, List.getElem_cons_zero, List.getElem_cons_succ, Act.put, List.setIfInBounds_toArray, List.set_cons_zero, List.set_cons_succ])
        first | (refine wpAnyH_take (i := 39) (v := ?_) rfl (by kernel_rfl) (by kernel_rfl) (by kernel_rfl) (fun _ _ _ h => h) (Or.inl ⟨by rfl, ?_⟩) hHeld ?_; rotate_left; (intro w hSw; (obtain ⟨t0, t1, t2, _⟩ := hSw.q.t.three; obtain ⟨p0, p1, p2, _⟩ := hSw.q.p.three; obtain ⟨x0, x1, x2, _⟩ := hSw.x.three; obtain ⟨y0, y1, y2, _⟩ := hSw.y.three; obtain ⟨u0, u1, u2, _⟩ := hSw.u.three; obtain ⟨v0, v1, v2, _⟩ := hSw.v.three; clear hSw); (go_simp <;> with_reducible rfl)); simp only [List.getElem_toArray, List.getElem_cons_zero, List.getElem_cons_succ, Act.put, List.setIfInBounds_toArray, List.set_cons_zero, List.set_cons_succ]) | (refine wpAnyH_take (i := 39) (v := undef) rfl (by kernel_rfl) (by kernel_rfl) (by kernel_rfl) (fun _ _ _ h => h) (Or.inr ⟨by rfl, rfl⟩) hHeld ?_; simp only [List.getElem_toArray, List.getElem_cons_zero, List.getElem_cons_succ, Act.put, List.setIfInBounds_toArray, List.set_cons_zero, List.set_cons_succ])
        first | (refine wpAnyH_take (i := 37) (v := undef) rfl (by kernel_rfl) (by kernel_rfl) (by kernel_rfl) (fun _ _ _ h => h) (Or.inr ⟨by rfl, rfl⟩) hHeld ?_; simp only [List.getElem_toArray, List.getElem_cons_zero, List.getElem_cons_succ, Act.put, List.setIfInBounds_toArray, List.set_cons_zero, List.set_cons_succ]) | (refine wpAnyH_ready (rs := [37]) (by kernel_rfl) (by simp) ?_; refine AllReadyH.cons rfl (fun K hK => ?_) AllReadyH.nil; go_simp; (refine (HA4.out _).mono ?_; rintro e w9 ⟨rfl, rfl⟩); refine hK.out _ _ ?_ (fun hHeld => ?_); (first | exact hK2 | exact hK1 | exact hHeld | exact hQd); clear hK K; try dsimp only)
        first | (refine wpAnyH_take (i := 40) (v := ?_) rfl (by kernel_rfl) (by kernel_rfl) (by kernel_rfl) (fun _ _ _ h => h) (Or.inl ⟨by rfl, ?_⟩) hHeld ?_; rotate_left; (intro w hSw; (obtain ⟨t0, t1, t2, _⟩ := hSw.q.t.three; obtain ⟨p0, p1, p2, _⟩ := hSw.q.p.three; obtain ⟨x0, x1, x2, _⟩ := hSw.x.three; obtain ⟨y0, y1, y2, _⟩ := hSw.y.three; obtain ⟨u0, u1, u2, _⟩ := hSw.u.three; obtain ⟨v0, v1, v2, _⟩ := hSw.v.three; clear hSw); (go_simp <;> with_reducible rfl)); simp only [List.getElem_toArray, List.getElem_cons_zero, List.getElem_cons_succ, Act.put, List.setIfInBounds_toArray, List.set_cons_zero, List.set_cons_succ]) | (refine wpAnyH_take (i := 40) (v := undef) rfl (by kernel_rfl) (by kernel_rfl) (by kernel_rfl) (fun _ _ _ h => h) (Or.inr ⟨by rfl, rfl⟩) hHeld ?_; simp only [List.getElem_toArray, List.getElem_cons_zero, List.getElem_cons_succ, Act.put, List.setIfInBounds_toArray, List.set_cons_zero, List.set_cons_succ])
        (refine wpAnyH_take (i := 41) (v := ?_) rfl (by kernel_rfl) (by kernel_rfl) (by kernel_rfl) (fun _ _ _ h => h) (Or.inl ⟨by rfl, ?_⟩) hHeld ?_; rotate_left; (intro w hSw; (obtain ⟨t0, t1, t2, _⟩ := hSw.q.t.three; obtain ⟨p0, p1, p2, _⟩ := hSw.q.p.three; obtain ⟨x0, x1, x2, _⟩ := hSw.x.three; obtain ⟨y0, y1, y2, _⟩ := hSw.y.three; obtain ⟨u0, u1, u2, _⟩ := hSw.u.three; obtain ⟨v0, v1, v2, _⟩ := hSw.v.three; clear hSw); (go_simp <;> with_reducible rfl)); simp only [List.getElem_toArray, List.getElem_cons_zero, List.getElem_cons_succ, Act.put, List.setIfInBounds_toArray, List.set_cons_zero, List.set_cons_succ])
        (refine wpAnyH_take (i := 42) (v := ?_) rfl (by kernel_rfl) (by kernel_rfl) (by kernel_rfl) (fun _ _ _ h => h) (Or.inl ⟨by rfl, ?_⟩) hHeld ?_; rotate_left; (intro w hSw; (obtain ⟨t0, t1, t2, _⟩ := hSw.q.t.three; obtain ⟨p0, p1, p2, _⟩ := hSw.q.p.three; obtain ⟨x0, x1, x2, _⟩ := hSw.x.three; obtain ⟨y0, y1, y2, _⟩ := hSw.y.three; obtain ⟨u0, u1, u2, _⟩ := hSw.u.three; obtain ⟨v0, v1, v2, _⟩ := hSw.v.three; clear hSw); (go_simp <;> with_reducible rfl)); simp only [List.getElem_toArray, List.getElem_cons_zero, List.getElem_cons_succ, Act.put, List.setIfInBounds_toArray, List.set_cons_zero, List.set_cons_succ])
        first | (refine wpAnyH_take (i := 43) (v := ?_) rfl (by kernel_rfl) (by kernel_rfl) (by kernel_rfl) (fun _ _ _ h => h) (Or.inl ⟨by rfl, ?_⟩) hHeld ?_; rotate_left; (intro w hSw; (obtain ⟨t0, t1, t2, _⟩ := hSw.q.t.three; obtain ⟨p0, p1, p2, _⟩ := hSw.q.p.three; obtain ⟨x0, x1, x2, _⟩ := hSw.x.three; obtain ⟨y0, y1, y2, _⟩ := hSw.y.three; obtain ⟨u0, u1, u2, _⟩ := hSw.u.three; obtain ⟨v0, v1, v2, _⟩ := hSw.v.three; clear hSw); (go_simp <;> with_reducible rfl)); simp only [List.getElem_toArray, List.getElem_cons_zero, List.getElem_cons_succ, Act.put, List.setIfInBounds_toArray, List.set_cons_zero, List.set_cons_succ]) | (refine wpAnyH_take (i := 43) (v := undef) rfl (by kernel_rfl) (by kernel_rfl) (by kernel_rfl) (fun _ _ _ h => h) (Or.inr ⟨by rfl, rfl⟩) hHeld ?_; simp only [List.getElem_toArray, List.getElem_cons_zero, List.getElem_cons_succ, Act.put, List.setIfInBounds_toArray, List.set_cons_zero, List.set_cons_succ])
        first | (refine wpAnyH_take (i := 44) (v := ?_) rfl (by kernel_rfl) (by kernel_rfl) (by kernel_rfl) (fun _ _ _ h => h) (Or.inl ⟨by rfl, ?_⟩) hHeld ?_; rotate_left; (intro w hSw; (obtain ⟨t0, t1, t2, _⟩ := hSw.q.t.three; obtain ⟨p0, p1, p2, _⟩ := hSw.q.p.three; obtain ⟨x0, x1, x2, _⟩ := hSw.x.three; obtain ⟨y0, y1, y2, _⟩ := hSw.y.three; obtain ⟨u0, u1, u2, _⟩ := hSw.u.three; obtain ⟨v0, v1, v2, _⟩ := hSw.v.three; clear hSw); (go_simp <;> with_reducible rfl)); simp only [List.getElem_toArray, List.getElem_cons_zero, List.getElem_cons_succ, Act.put, List.setIfInBounds_toArray, List.set_cons_zero, List.set_cons_succ]) | (refine wpAnyH_take (i := 44) (v := undef) rfl (by kernel_rfl) (by kernel_rfl) (by kernel_rfl) (fun _ _ _ h => h) (Or.inr ⟨by rfl, rfl⟩) hHeld ?_; simp only [List.getElem_toArray, List.getElem_cons_zero, List.getElem_cons_succ, Act.put, List.setIfInBounds_toArray, List.set_cons_zero, List.set_cons_succ])
        first | (refine wpAnyH_take (i := 45) (v := ?_) rfl (by kernel_rfl) (by kernel_rfl) (by kernel_rfl) (fun _ _ _ h => h) (Or.inl ⟨by rfl, ?_⟩) hHeld ?_; rotate_left; (intro w hSw; (obtain ⟨t0, t1, t2, _⟩ := hSw.q.t.three; obtain ⟨p0, p1, p2, _⟩ := hSw.q.p.three; obtain ⟨x0, x1, x2, _⟩ := hSw.x.three; obtain ⟨y0, y1, y2, _⟩ := hSw.y.three; obtain ⟨u0, u1, u2, _⟩ := hSw.u.three; obtain ⟨v0, v1, v2, _⟩ := hSw.v.three; clear hSw); (go_simp <;> with_reducible rfl)); simp only [List.getElem_toArray, List.getElem_cons_zero, List.getElem_cons_succ, Act.put, List.setIfInBounds_toArray, List.set_cons_zero, List.set_cons_succ]) | (refine wpAnyH_take (i := 45) (v := undef) rfl (by kernel_rfl) (by kernel_rfl) (by kernel_rfl) (fun _ _ _ h => h) (Or.inr ⟨by rfl, rfl⟩) hHeld ?_; simp only [List.getElem_toArray, List.getElem_cons_zero, List.getElem_cons_succ, Act.put, List.setIfInBounds_toArray, List.set_cons_zero, List.set_cons_succ])
        first | (refine wpAnyH_take (i := 46) (v := ?_) rfl (by kernel_rfl) (by kernel_rfl) (by kernel_rfl) (fun _ _ _ h => h) (Or.inl ⟨by rfl, ?_⟩) hHeld ?_; rotate_left; (intro w hSw; (obtain ⟨t0, t1, t2, _⟩ := hSw.q.t.three; obtain ⟨p0, p1, p2, _⟩ := hSw.q.p.three; obtain ⟨x0, x1, x2, _⟩ := hSw.x.three; obtain ⟨y0, y1, y2, _⟩ := hSw.y.three; obtain ⟨u0, u1, u2, _⟩ := hSw.u.three; obtain ⟨v0, v1, v2, _⟩ := hSw.v.three; clear hSw); (go_simp <;> with_reducible rfl)); simp only [List.getElem_toArray, List.getElem_cons_zero, List.getElem_cons_succ, Act.put, List.setIfInBounds_toArray, List.set_cons_zero, List.set_cons_succ]) | (refine wpAnyH_take (i := 46) (v := undef) rfl (by kernel_rfl) (by kernel_rfl) (by kernel_rfl) (fun _ _ _ h => h) (Or.inr ⟨by rfl, rfl⟩) hHeld ?_; simp only [List.getElem_toArray, List.getElem_cons_zero, List.getElem_cons_succ, Act.put, List.setIfInBounds_toArray, List.set_cons_zero, List.set_cons_succ])
        first | (refine wpAnyH_take (i := 47) (v := ?_) rfl (by kernel_rfl) (by kernel_rfl) (by kernel_rfl) (fun _ _ _ h => h) (Or.inl ⟨by rfl, ?_⟩) hHeld ?_; rotate_left; (intro w hSw; (obtain ⟨t0, t1, t2, _⟩ := hSw.q.t.three; obtain ⟨p0, p1, p2, _⟩ := hSw.q.p.three; obtain ⟨x0, x1, x2, _⟩ := hSw.x.three; obtain ⟨y0, y1, y2, _⟩ := hSw.y.three; obtain ⟨u0, u1, u2, _⟩ := hSw.u.three; obtain ⟨v0, v1, v2, _⟩ := hSw.v.three; clear hSw); (go_simp <;> with_reducible rfl)); simp only [List.getElem_toArray, List.getElem_cons_zero, List.getElem_cons_succ, Act.put, List.setIfInBounds_toArray, List.set_cons_zero, List.set_cons_succ]) | (refine wpAnyH_take (i := 47) (v := undef) rfl (by kernel_rfl) (by kernel_rfl) (by kernel_rfl) (fun _ _ _ h => h) (Or.inr ⟨by rfl, rfl⟩) hHeld ?_; simp only [List.getElem_toArray, List.getElem_cons_zero, List.getElem_cons_succ, Act.put, List.setIfInBounds_toArray, List.set_cons_zero, List.set_cons_succ])
        first | (refine wpAnyH_take (i := 48) (v := ?_) rfl (by kernel_rfl) (by kernel_rfl) (by kernel_rfl) (fun _ _ _ h => h) (Or.inl ⟨by rfl, ?_⟩) hHeld ?_; rotate_left; (intro w hSw; (obtain ⟨t0, t1, t2, _⟩ := hSw.q.t.three; obtain ⟨p0, p1, p2, _⟩ := hSw.q.p.three; obtain ⟨x0, x1, x2, _⟩ := hSw.x.three; obtain ⟨y0, y1, y2, _⟩ := hSw.y.three; obtain ⟨u0, u1, u2, _⟩ := hSw.u.three; obtain ⟨v0, v1, v2, _⟩ := hSw.v.three; clear hSw); (go_simp <;> with_reducible rfl)); simp only [List.getElem_toArray, List.getElem_cons_zero, List.getElem_cons_succ, Act.put, List.setIfInBounds_toArray, List.set_cons_zero, List.set_cons_succ]) | (refine wpAnyH_take (i := 48) (v := undef) rfl (by kernel_rfl) (by kernel_rfl) (by kernel_rfl) (fun _ _ _ h => h) (Or.inr ⟨by rfl, rfl⟩) hHeld ?_; simp only [List.getElem_toArray, List.getElem_cons_zero, List.getElem_cons_succ, Act.put, List.setIfInBounds_toArray, List.set_cons_zero, List.set_cons_succ])
        first | (refine wpAnyH_take (i := 49) (v := undef) rfl (by kernel_rfl) (by kernel_rfl) (by kernel_rfl) (fun _ _ _ h => h) (Or.inr ⟨by rfl, rfl⟩) hHeld ?_; simp only [List.getElem_toArray, List.getElem_cons_zero, List.getElem_cons_succ, Act.put, List.setIfInBounds_toArray, List.set_cons_zero, List.set_cons_succ]) | (refine wpAnyH_ready (rs := [49]) (by kernel_rfl) (by simp) ?_; refine AllReadyH.cons rfl (fun K hK => ?_) AllReadyH.nil; go_simp; (refine (HSt.out _).mono ?_; rintro e w9 ⟨rfl, hb9⟩; have hK1 := hHeld.later hb9); refine hK.out _ _ ?_ (fun hHeld => ?_); (first | exact hK2 | exact hK1 | exact hHeld | exact hQd); clear hK K; try dsimp only)
        first | (refine wpAnyH_take (i := 50) (v := ?_) rfl (by kernel_rfl) (by kernel_rfl) (by kernel_rfl) (fun _ _ _ h => h) (Or.inl ⟨by rfl, ?_⟩) hHeld ?_; rotate_left; (intro w hSw; (obtain ⟨t0, t1, t2, _⟩ := hSw.q.t.three; obtain ⟨p0, p1, p2, _⟩ := hSw.q.p.three; obtain ⟨x0, x1, x2, _⟩ := hSw.x.three; obtain ⟨y0, y1, y2, _⟩ := hSw.y.three; obtain ⟨u0, u1, u2, _⟩ := hSw.u.three; obtain ⟨v0, v1, v2, _⟩ := hSw.v.three; clear hSw); (go_simp <;> with_reducible rfl)); simp only [List.getElem_toArray, List.getElem_cons_zero, List.getElem_cons_succ, Act.put, List.setIfInBounds_toArray, List.set_cons_zero, List.set_cons_succ]) | (refine wpAnyH_take (i := 50) (v := undef) rfl (by kernel_rfl) (by kernel_rfl) (by kernel_rfl) (fun _ _ _ h => h) (Or.inr ⟨by rfl, rfl⟩) hHeld ?_; simp only [List.getElem_toArray, List.getElem_cons_zero, List.getElem_cons_succ, Act.put, List.setIfInBounds_toArray, List.set_cons_zero, List.set_cons_succ])
        first | (refine wpAnyH_take (i := 51) (v := ?_) rfl (by kernel_rfl) (by kernel_rfl) (by kernel_rfl) (fun _ _ _ h => h) (Or.inl ⟨by rfl, ?_⟩) hHeld ?_; rotate_left; (intro w hSw; (obtain ⟨t0, t1, t2, _⟩ := hSw.q.t.three; obtain ⟨p0, p1, p2, _⟩ := hSw.q.p.three; obtain ⟨x0, x1, x2, _⟩ := hSw.x.three; obtain ⟨y0, y1, y2, _⟩ := hSw.y.three; obtain ⟨u0, u1, u2, _⟩ := hSw.u.three; obtain ⟨v0, v1, v2, _⟩ := hSw.v.three; clear hSw); (go_simp <;> with_reducible rfl)); simp only [List.getElem_toArray, List.getElem_cons_zero, List.getElem_cons_succ, Act.put, List.setIfInBounds_toArray, List.set_cons_zero, List.set_cons_succ]) | (refine wpAnyH_take (i := 51) (v := undef) rfl (by kernel_rfl) (by kernel_rfl) (by kernel_rfl) (fun _ _ _ h => h) (Or.inr ⟨by rfl, rfl⟩) hHeld ?_; simp only [List.getElem_toArray, List.getElem_cons_zero, List.getElem_cons_succ, Act.put, List.setIfInBounds_toArray, List.set_cons_zero, List.set_cons_succ])
        (refine wpAnyH_take (i := 52) (v := ?_) rfl (by kernel_rfl) (by kernel_rfl) (by kernel_rfl) (fun _ _ _ h => h) (Or.inl ⟨by rfl, ?_⟩) hHeld ?_; rotate_left; (intro w hSw; (obtain ⟨t0, t1, t2, _⟩ := hSw.q.t.three; obtain ⟨p0, p1, p2, _⟩ := hSw.q.p.three; obtain ⟨x0, x1, x2, _⟩ := hSw.x.three; obtain ⟨y0, y1, y2, _⟩ := hSw.y.three; obtain ⟨u0, u1, u2, _⟩ := hSw.u.three; obtain ⟨v0, v1, v2, _⟩ := hSw.v.three; clear hSw); (go_simp <;> with_reducible rfl)); simp only [List.getElem_toArray, List.getElem_cons_zero, List.getElem_cons_succ, Act.put, List.setIfInBounds_toArray, List.set_cons_zero, List.set_cons_succ])
        (refine wpAnyH_take (i := 53) (v := ?_) rfl (by kernel_rfl) (by kernel_rfl) (by kernel_rfl) (fun _ _ _ h => h) (Or.inl ⟨by rfl, ?_⟩) hHeld ?_; rotate_left; (intro w hSw; (obtain ⟨t0, t1, t2, _⟩ := hSw.q.t.three; obtain ⟨p0, p1, p2, _⟩ := hSw.q.p.three; obtain ⟨x0, x1, x2, _⟩ := hSw.x.three; obtain ⟨y0, y1, y2, _⟩ := hSw.y.three; obtain ⟨u0, u1, u2, _⟩ := hSw.u.three; obtain ⟨v0, v1, v2, _⟩ := hSw.v.three; clear hSw); (go_simp <;> with_reducible rfl)); simp only [List.getElem_toArray, List.getElem_cons_zero, List.getElem_cons_succ, Act.put, List.setIfInBounds_toArray, List.set_cons_zero, List.set_cons_succ])
        first | (refine wpAnyH_take (i := 54) (v := ?_) rfl (by kernel_rfl) (by kernel_rfl) (by kernel_rfl) (fun _ _ _ h => h) (Or.inl ⟨by rfl, ?_⟩) hHeld ?_; rotate_left; (intro w hSw; (obtain ⟨t0, t1, t2, _⟩ := hSw.q.t.three; obtain ⟨p0, p1, p2, _⟩ := hSw.q.p.three; obtain ⟨x0, x1, x2, _⟩ := hSw.x.three; obtain ⟨y0, y1, y2, _⟩ := hSw.y.three; obtain ⟨u0, u1, u2, _⟩ := hSw.u.three; obtain ⟨v0, v1, v2, _⟩ := hSw.v.three; clear hSw); (go_simp <;> with_reducible rfl)); simp only [List.getElem_toArray, List.getElem_cons_zero, List.getElem_cons_succ, Act.put, List.setIfInBounds_toArray, List.set_cons_zero, List.set_cons_succ]) | (refine wpAnyH_take (i := 54) (v := undef) rfl (by kernel_rfl) (by kernel_rfl) (by kernel_rfl) (fun _ _ _ h => h) (Or.inr ⟨by rfl, rfl⟩) hHeld ?_; simp only [List.getElem_toArray, List.getElem_cons_zero, List.getElem_cons_succ, Act.put, List.setIfInBounds_toArray, List.set_cons_zero, List.set_cons_succ])
        first | (refine wpAnyH_take (i := 55) (v := ?_) rfl (by kernel_rfl) (by kernel_rfl) (by kernel_rfl) (fun _ _ _ h => h) (Or.inl ⟨by rfl, ?_⟩) hHeld ?_; rotate_left; (intro w hSw; (obtain ⟨t0, t1, t2, _⟩ := hSw.q.t.three; obtain ⟨p0, p1, p2, _⟩ := hSw.q.p.three; obtain ⟨x0, x1, x2, _⟩ := hSw.x.three; obtain ⟨y0, y1, y2, _⟩ := hSw.y.three; obtain ⟨u0, u1, u2, _⟩ := hSw.u.three; obtain ⟨v0, v1, v2, _⟩ := hSw.v.three; clear hSw); (go_simp <;> with_reducible rfl)); simp only [List.getElem_toArray, List.getElem_cons_zero, List.getElem_cons_succ, Act.put, List.setIfInBounds_toArray, List.set_cons_zero, List.set_cons_succ]) | (refine wpAnyH_take (i := 55) (v := undef) rfl (by kernel_rfl) (by kernel_rfl) (by kernel_rfl) (fun _ _ _ h => h) (Or.inr ⟨by rfl, rfl⟩) hHeld ?_; simp only [List.getElem_toArray, List.getElem_cons_zero, List.getElem_cons_succ, Act.put, List.setIfInBounds_toArray, List.set_cons_zero, List.set_cons_succ])
        first | (refine wpAnyH_take (i := 56) (v := ?_) rfl (by kernel_rfl) (by kernel_rfl) (by kernel_rfl) (fun _ _ _ h => h) (Or.inl ⟨by rfl, ?_⟩) hHeld ?_; rotate_left; (intro w hSw; (obtain ⟨t0, t1, t2, _⟩ := hSw.q.t.three; obtain ⟨p0, p1, p2, _⟩ := hSw.q.p.three; obtain ⟨x0, x1, x2, _⟩ := hSw.x.three; obtain ⟨y0, y1, y2, _⟩ := hSw.y.three; obtain ⟨u0, u1, u2, _⟩ := hSw.u.three; obtain ⟨v0, v1, v2, _⟩ := hSw.v.three; clear hSw); (go_simp <;> with_reducible rfl)); simp only [List.getElem_toArray, List.getElem_cons_zero, List.getElem_cons_succ, Act.put, List.setIfInBounds_toArray, List.set_cons_zero, List.set_cons_succ]) | (refine wpAnyH_take (i := 56) (v := undef) rfl (by kernel_rfl) (by kernel_rfl) (by kernel_rfl) (fun _ _ _ h => h) (Or.inr ⟨by rfl, rfl⟩) hHeld ?_; simp only [List.getElem_toArray, List.getElem_cons_zero, List.getElem_cons_succ, Act.put, List.setIfInBounds_toArray, List.set_cons_zero, List.set_cons_succ])
        first | (refine wpAnyH_take (i := 57) (v := ?_) rfl (by kernel_rfl) (by kernel_rfl) (by kernel_rfl) (fun _ _ _ h => h) (Or.inl ⟨by rfl, ?_⟩) hHeld ?_; rotate_left; (intro w hSw; (obtain ⟨t0, t1, t2, _⟩ := hSw.q.t.three; obtain ⟨p0, p1, p2, _⟩ := hSw.q.p.three; obtain ⟨x0, x1, x2, _⟩ := hSw.x.three; obtain ⟨y0, y1, y2, _⟩ := hSw.y.three; obtain ⟨u0, u1, u2, _⟩ := hSw.u.three; obtain ⟨v0, v1, v2, _⟩ := hSw.v.three; clear hSw); (go_simp <;> with_reducible rfl)); simp only [List.getElem_toArray, List.getElem_cons_zero, List.getElem_cons_succ, Act.put, List.setIfInBounds_toArray, List.set_cons_zero, List.set_cons_succ]) | (refine wpAnyH_take (i := 57) (v := undef) rfl (by kernel_rfl) (by kernel_rfl) (by kernel_rfl) (fun _ _ _ h => h) (Or.inr ⟨by rfl, rfl⟩) hHeld ?_; simp only [List.getElem_toArray, List.getElem_cons_zero, List.getElem_cons_succ, Act.put, List.setIfInBounds_toArray, List.set_cons_zero, List.set_cons_succ])
        first | (refine wpAnyH_take (i := 58) (v := undef) rfl (by kernel_rfl) (by kernel_rfl) (by kernel_rfl) (fun _ _ _ h => h) (Or.inr ⟨by rfl, rfl⟩) hHeld ?_; simp only [List.getElem_toArray, List.getElem_cons_zero, List.getElem_cons_succ, Act.put, List.setIfInBounds_toArray, List.set_cons_zero, List.set_cons_succ]) | (refine wpAnyH_ready (rs := [58]) (by kernel_rfl) (by simp) ?_; refine AllReadyH.cons rfl (fun K hK => ?_) AllReadyH.nil; go_simp; (refine (HSp.out _).mono ?_; rintro e w10 ⟨rfl, hb10⟩; have hK2 := hHeld.later hb10); refine hK.out _ _ ?_ (fun hHeld => ?_); (first | exact hK2 | exact hK1 | exact hHeld | exact hQd); clear hK K; try dsimp only)
        first | (refine wpAnyH_take (i := 59) (v := ?_) rfl (by kernel_rfl) (by kernel_rfl) (by kernel_rfl) (fun _ _ _ h => h) (Or.inl ⟨by rfl, ?_⟩) hHeld ?_; rotate_left; (intro w hSw; (obtain ⟨t0, t1, t2, _⟩ := hSw.q.t.three; obtain ⟨p0, p1, p2, _⟩ := hSw.q.p.three; obtain ⟨x0, x1, x2, _⟩ := hSw.x.three; obtain ⟨y0, y1, y2, _⟩ := hSw.y.three; obtain ⟨u0, u1, u2, _⟩ := hSw.u.three; obtain ⟨v0, v1, v2, _⟩ := hSw.v.three; clear hSw); (go_simp <;> with_reducible rfl)); simp only [List.getElem_toArray, List.getElem_cons_zero, List.getElem_cons_succ, Act.put, List.setIfInBounds_toArray, List.set_cons_zero, List.set_cons_succ]) | (refine wpAnyH_take (i := 59) (v := undef) rfl (by kernel_rfl) (by kernel_rfl) (by kernel_rfl) (fun _ _ _ h => h) (Or.inr ⟨by rfl, rfl⟩) hHeld ?_; simp only [List.getElem_toArray, List.getElem_cons_zero, List.getElem_cons_succ, Act.put, List.setIfInBounds_toArray, List.set_cons_zero, List.set_cons_succ])
        first | (refine wpAnyH_take (i := 60) (v := ?_) rfl (by kernel_rfl) (by kernel_rfl) (by kernel_rfl) (fun _ _ _ h => h) (Or.inl ⟨by rfl, ?_⟩) hHeld ?_; rotate_left; (intro w hSw; (obtain ⟨t0, t1, t2, _⟩ := hSw.q.t.three; obtain ⟨p0, p1, p2, _⟩ := hSw.q.p.three; obtain ⟨x0, x1, x2, _⟩ := hSw.x.three; obtain ⟨y0, y1, y2, _⟩ := hSw.y.three; obtain ⟨u0, u1, u2, _⟩ := hSw.u.three; obtain ⟨v0, v1, v2, _⟩ := hSw.v.three; clear hSw); (go_simp <;> with_reducible rfl)); simp only [List.getElem_toArray, List.getElem_cons_zero, List.getElem_cons_succ, Act.put, List.setIfInBounds_toArray, List.set_cons_zero, List.set_cons_succ]) | (refine wpAnyH_take (i := 60) (v := undef) rfl (by kernel_rfl) (by kernel_rfl) (by kernel_rfl) (fun _ _ _ h => h) (Or.inr ⟨by rfl, rfl⟩) hHeld ?_; simp only [List.getElem_toArray, List.getElem_cons_zero, List.getElem_cons_succ, Act.put, List.setIfInBounds_toArray, List.set_cons_zero, List.set_cons_succ])
        (refine wpAnyH_take (i := 61) (v := ?_) rfl (by kernel_rfl) (by kernel_rfl) (by kernel_rfl) (fun _ _ _ h => h) (Or.inl ⟨by rfl, ?_⟩) hHeld ?_; rotate_left; (intro w hSw; (obtain ⟨t0, t1, t2, _⟩ := hSw.q.t.three; obtain ⟨p0, p1, p2, _⟩ := hSw.q.p.three; obtain ⟨x0, x1, x2, _⟩ := hSw.x.three; obtain ⟨y0, y1, y2, _⟩ := hSw.y.three; obtain ⟨u0, u1, u2, _⟩ := hSw.u.three; obtain ⟨v0, v1, v2, _⟩ := hSw.v.three; clear hSw); (go_simp <;> with_reducible rfl)); simp only [List.getElem_toArray, List.getElem_cons_zero, List.getElem_cons_succ, Act.put, List.setIfInBounds_toArray, List.set_cons_zero, List.set_cons_succ])
        (refine wpAnyH_take (i := 62) (v := ?_) rfl (by kernel_rfl) (by kernel_rfl) (by kernel_rfl) (fun _ _ _ h => h) (Or.inl ⟨by rfl, ?_⟩) hHeld ?_; rotate_left; (intro w hSw; (obtain ⟨t0, t1, t2, _⟩ := hSw.q.t.three; obtain ⟨p0, p1, p2, _⟩ := hSw.q.p.three; obtain ⟨x0, x1, x2, _⟩ := hSw.x.three; obtain ⟨y0, y1, y2, _⟩ := hSw.y.three; obtain ⟨u0, u1, u2, _⟩ := hSw.u.three; obtain ⟨v0, v1, v2, _⟩ := hSw.v.three; clear hSw); (go_simp <;> with_reducible rfl)); simp only [List.getElem_toArray, List.getElem_cons_zero, List.getElem_cons_succ, Act.put, List.setIfInBounds_toArray, List.set_cons_zero, List.set_cons_succ])
        refine wpAnyH_done (by kernel_rfl) ?_ _
        refine NoPanic.normal ?_
        have HBz := hid hHeld.q.b
        clear hHeld HQ hQd
        go_wp2
        go_ret
        exact ⟨rfl, HBz.out⟩
end Go.Proofs.YtbakmphopgkpmaaDoor.PrW
