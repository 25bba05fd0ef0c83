/- TurnOf, TurnPair, BackPair and TurnBounds of the program: what they return at every argument. Condition: the table holds what its own text lays. -/
import Derived.Test.YtbakmphopgkpmaaDoorTurA
import Derived.Test.YtbakmphopgkpmaaDoorWayJ
namespace Go.Proofs.YtbakmphopgkpmaaDoor.TurP
open Go.ChangeShapes Go.WideShapes Go.ChangeAt Go.RowKit Go.Proofs.YtbakmphopgkpmaaDoor.Num Go.Proofs.YtbakmphopgkpmaaDoor.Sli Go.Proofs.YtbakmphopgkpmaaDoor.Samp Go.Proofs.YtbakmphopgkpmaaDoor.Blk Go.Proofs.YtbakmphopgkpmaaDoor.TurM Go.Proofs.YtbakmphopgkpmaaDoor.TurI Go.Proofs.YtbakmphopgkpmaaDoor.TurA Go.Proofs.YtbakmphopgkpmaaDoor.Par Go.Proofs.YtbakmphopgkpmaaDoor.BndM Go.Proofs.YtbakmphopgkpmaaDoor.WayM Go.Proofs.YtbakmphopgkpmaaDoor.WayJ

set_option maxRecDepth 100000 in
set_option maxHeartbeats 4000000 in
/-- What is asked by a function that is handed in, and then turned by another one. -/
theorem turned_plain (nF nW : FuncId) (bt : Bool) (s n a b xa xb : Int) (w : World) (hT : Tab w)
    (qF : ∀ args w, (callFunc nF args).run Tryd.prog w = .ok (.enter nF args) w) (qW : ∀ args w, (callFunc nW args).run Tryd.prog w = .ok (.enter nW args) w)
    (hF : ∀ W, Calls Tryd.prog nF #[.agg #[.int .i64 a, .int .i64 b]] W fun e w' => e = .returned (.bool bt) ∧ Below W.heap.size W w')
    (hW : tOk s n = true → bt = true → ∀ W, Below w.heap.size w W → Calls Tryd.prog nW #[.agg #[.int .i64 (pV s n), .int .i64 (uV s n)], .agg #[.int .i64 a, .int .i64 b]] W fun e w' => e = .returned (.agg #[.int .i64 xa, .int .i64 xb]) ∧ Below W.heap.size W w') :
    Calls Tryd.prog 46 #[.int .i64 s, .int .i64 n, .agg #[.int .i64 a, .int .i64 b], .func (.func nF) #[] #[], .func (.func nW) #[] #[]] w fun e w' => e = .returned (.agg #[.int .i64 (if (tOk s n && bt) = true then 0 else 3), .int .i64 (if (tOk s n && bt) = true then xa else 0), .int .i64 (if (tOk s n && bt) = true then xb else 0)]) ∧ Below w.heap.size w w' := by
  have HF := hid (turnOf_calls s n _ (hT.later (bmore (bmore (Below.refl _ w) (.cells #[.int .i64 a, .int .i64 b] 69)) (.cells #[.int .i64 0, .int .i64 0, .int .i64 0] 27))))
  have HR := hid result_calls
  have HW1 := hid hF
  clear hT hF
  cases h : tOk s n
  · rw [show (false && bt) = false from rfl, if_neg (by decide), if_neg (by decide), if_neg (by decide)]
    obtain ⟨e1, e2, e3⟩ := t_no h
    rw [e1, e2, e3] at HF
    clear e1 e2 e3 h HW1 HR hW
    go_enter Tryd.func46, Tryd.ntmps46
    go_wp2_with fail
    refine HF.out.mono ?_
    rintro e w1 ⟨rfl, hb1⟩
    obtain ⟨_, hB2, hL2, hz⟩ := boxes2 hb1
    have HB := hid hB2
    have HL := hid hL2
    obtain ⟨c0, c1, c2, f0, f1, f2⟩ := HB.out.three
    have hlt := HB.out.lt
    clear hb1 HF hB2 hL2
    go_wp2
    exact bodyPost_ret (v := .agg #[.int .i64 3, .int .i64 0, .int .i64 0]) (by simp [results, Tryd.results46, go_sem, c0, c1, c2, hlt]) rfl ⟨rfl, bmore (below_cell (below_cell (below_cell HL.out (by omega) _ _) (by omega) _ _) (by omega) _ _) _⟩
  · rw [show (true && bt) = bt from rfl]
    have HA := hid (hW h)
    obtain ⟨e1, e2, e3⟩ := t_yes h
    rw [e1, e2, e3] at HF
    clear e1 e2 e3 h hW
    generalize pV s n = p at *
    generalize uV s n = u at *
    cases bt
    · rw [if_neg (by decide), if_neg (by decide), if_neg (by decide)]
      clear HA HR
      go_enter Tryd.func46, Tryd.ntmps46
      go_wp2_with fail
      refine HF.out.mono ?_
      rintro e w1 ⟨rfl, hb1⟩
      obtain ⟨hV2, hB2, hL2, hz⟩ := boxes2 hb1
      have HV := hid (hV2.alloc (.cells #[.int .i64 p, .int .i64 u] 85))
      have HB := hid (hB2.alloc (.cells #[.int .i64 p, .int .i64 u] 85))
      have HL := hid (bmore hL2 (.cells #[.int .i64 p, .int .i64 u] 85))
      have hlt := hB2.lt
      obtain ⟨v0, v1, _, _⟩ := hV2.two
      have hv := hV2.lt
      clear hb1 HF hB2 hL2 hV2
      go_wp2_with fail
      refine (HW1.out _).mono ?_
      rintro e w2 ⟨rfl, hb2⟩
      have HB2 := hid (HB.out.later hb2)
      have HL2 := hid (bthen HL.out hb2)
      obtain ⟨c0, c1, c2, f0, f1, f2⟩ := HB2.out.three
      clear hb2 HB HL HW1 HV v0 v1
      go_wp2
      exact bodyPost_ret (v := .agg #[.int .i64 3, .int .i64 0, .int .i64 0]) (by simp [results, Tryd.results46, go_sem, c0, c1, c2]) rfl ⟨rfl, below_cell (below_cell (below_cell HL2.out (by omega) _ _) (by omega) _ _) (by omega) _ _⟩
    · rw [if_pos rfl, if_pos rfl, if_pos rfl]
      have HA2 := hid (HA.out rfl)
      clear HA
      go_enter Tryd.func46, Tryd.ntmps46
      go_wp2_with fail
      refine HF.out.mono ?_
      rintro e w1 ⟨rfl, hb1⟩
      obtain ⟨hV2, hB2, hL2, hz⟩ := boxes2 hb1
      have HV := hid (hV2.alloc (.cells #[.int .i64 p, .int .i64 u] 85))
      have HB := hid (hB2.alloc (.cells #[.int .i64 p, .int .i64 u] 85))
      have HL := hid (bmore hL2 (.cells #[.int .i64 p, .int .i64 u] 85))
      have HT2 := hid (Blk.new w1 #[.int .i64 p, .int .i64 u] 85)
      have hlt := hB2.lt
      obtain ⟨v0, v1, _, _⟩ := hV2.two
      have hv := hV2.lt
      clear hb1 HF hB2 hL2 hV2
      go_wp2_with fail
      refine (HW1.out _).mono ?_
      rintro e w2 ⟨rfl, hb2⟩
      have HB2 := hid (HB.out.later hb2)
      have HL2 := hid (bthen HL.out hb2)
      have hV3 := HV.out.later hb2
      have hT3 := HT2.out.later hb2
      obtain ⟨v0, v1, _, _⟩ := hV3.two
      obtain ⟨t0, t1, _, _⟩ := hT3.two
      clear hb2 HB HL HW1 HV HT2 hV3 hT3
      go_wp2_with fail
      refine (HA2.out _ HL2.out).mono ?_
      rintro e w3 ⟨rfl, hb3⟩
      have HB3 := hid (HB2.out.later hb3)
      have HL3 := hid (bthen HL2.out hb3)
      clear HB2 HL2 hb3 HA2 t0 t1 v0 v1
      go_wp2_with fail
      refine (HR.out _ _ _).mono ?_
      rintro e w4 ⟨rfl, hb4⟩
      have HB4 := hid (HB3.out.later hb4)
      have HL4 := hid (bthen HL3.out hb4)
      obtain ⟨c0, c1, c2, f0, f1, f2⟩ := HB4.out.three
      clear HB3 HL3 hb4
      go_wp2
      exact bodyPost_ret (v := .agg #[.int .i64 0, .int .i64 xa, .int .i64 xb]) (by simp [results, Tryd.results46, go_sem, c0, c1, c2]) rfl ⟨rfl, below_cell (below_cell (below_cell HL4.out (by omega) _ _) (by omega) _ _) (by omega) _ _⟩
set_option maxRecDepth 100000 in
set_option maxHeartbeats 4000000 in
/-- What is asked by a function that is handed in, and then turned by another one. -/
theorem turned_way (nF nW : FuncId) (wv : Value) (bt : Bool) (s n a b xa xb : Int) (w : World) (hT : Tab w)
    (qF : ∀ args w, (callFunc nF args).run Tryd.prog w = .ok (.enter nF args) w) (qW : ∀ args w, (callFunc nW args).run Tryd.prog w = .ok (.enter nW args) w)
    (hF : ∀ W, Calls Tryd.prog nF #[.agg #[.int .i64 a, .int .i64 b]] W fun e w' => e = .returned (.bool bt) ∧ Below W.heap.size W w')
    (hW : tOk s n = true → bt = true → ∀ W, Below w.heap.size w W → Calls Tryd.prog nW #[wv, .agg #[.int .i64 (pV s n), .int .i64 (uV s n)], .agg #[.int .i64 a, .int .i64 b]] W fun e w' => e = .returned (.agg #[.int .i64 xa, .int .i64 xb]) ∧ Below W.heap.size W w') :
    Calls Tryd.prog 46 #[.int .i64 s, .int .i64 n, .agg #[.int .i64 a, .int .i64 b], .func (.func nF) #[] #[], .func (.func nW) #[wv] #[]] w fun e w' => e = .returned (.agg #[.int .i64 (if (tOk s n && bt) = true then 0 else 3), .int .i64 (if (tOk s n && bt) = true then xa else 0), .int .i64 (if (tOk s n && bt) = true then xb else 0)]) ∧ Below w.heap.size w w' := by
  have HF := hid (turnOf_calls s n _ (hT.later (bmore (bmore (Below.refl _ w) (.cells #[.int .i64 a, .int .i64 b] 69)) (.cells #[.int .i64 0, .int .i64 0, .int .i64 0] 27))))
  have HR := hid result_calls
  have HW1 := hid hF
  clear hT hF
  cases h : tOk s n
  · rw [show (false && bt) = false from rfl, if_neg (by decide), if_neg (by decide), if_neg (by decide)]
    obtain ⟨e1, e2, e3⟩ := t_no h
    rw [e1, e2, e3] at HF
    clear e1 e2 e3 h HW1 HR hW
    go_enter Tryd.func46, Tryd.ntmps46
    go_wp2_with fail
    refine HF.out.mono ?_
    rintro e w1 ⟨rfl, hb1⟩
    obtain ⟨_, hB2, hL2, hz⟩ := boxes2 hb1
    have HB := hid hB2
    have HL := hid hL2
    obtain ⟨c0, c1, c2, f0, f1, f2⟩ := HB.out.three
    have hlt := HB.out.lt
    clear hb1 HF hB2 hL2
    go_wp2
    exact bodyPost_ret (v := .agg #[.int .i64 3, .int .i64 0, .int .i64 0]) (by simp [results, Tryd.results46, go_sem, c0, c1, c2, hlt]) rfl ⟨rfl, bmore (below_cell (below_cell (below_cell HL.out (by omega) _ _) (by omega) _ _) (by omega) _ _) _⟩
  · rw [show (true && bt) = bt from rfl]
    have HA := hid (hW h)
    obtain ⟨e1, e2, e3⟩ := t_yes h
    rw [e1, e2, e3] at HF
    clear e1 e2 e3 h hW
    generalize pV s n = p at *
    generalize uV s n = u at *
    cases bt
    · rw [if_neg (by decide), if_neg (by decide), if_neg (by decide)]
      clear HA HR
      go_enter Tryd.func46, Tryd.ntmps46
      go_wp2_with fail
      refine HF.out.mono ?_
      rintro e w1 ⟨rfl, hb1⟩
      obtain ⟨hV2, hB2, hL2, hz⟩ := boxes2 hb1
      have HV := hid (hV2.alloc (.cells #[.int .i64 p, .int .i64 u] 85))
      have HB := hid (hB2.alloc (.cells #[.int .i64 p, .int .i64 u] 85))
      have HL := hid (bmore hL2 (.cells #[.int .i64 p, .int .i64 u] 85))
      have hlt := hB2.lt
      obtain ⟨v0, v1, _, _⟩ := hV2.two
      have hv := hV2.lt
      clear hb1 HF hB2 hL2 hV2
      go_wp2_with fail
      refine (HW1.out _).mono ?_
      rintro e w2 ⟨rfl, hb2⟩
      have HB2 := hid (HB.out.later hb2)
      have HL2 := hid (bthen HL.out hb2)
      obtain ⟨c0, c1, c2, f0, f1, f2⟩ := HB2.out.three
      clear hb2 HB HL HW1 HV v0 v1
      go_wp2
      exact bodyPost_ret (v := .agg #[.int .i64 3, .int .i64 0, .int .i64 0]) (by simp [results, Tryd.results46, go_sem, c0, c1, c2]) rfl ⟨rfl, below_cell (below_cell (below_cell HL2.out (by omega) _ _) (by omega) _ _) (by omega) _ _⟩
    · rw [if_pos rfl, if_pos rfl, if_pos rfl]
      have HA2 := hid (HA.out rfl)
      clear HA
      go_enter Tryd.func46, Tryd.ntmps46
      go_wp2_with fail
      refine HF.out.mono ?_
      rintro e w1 ⟨rfl, hb1⟩
      obtain ⟨hV2, hB2, hL2, hz⟩ := boxes2 hb1
      have HV := hid (hV2.alloc (.cells #[.int .i64 p, .int .i64 u] 85))
      have HB := hid (hB2.alloc (.cells #[.int .i64 p, .int .i64 u] 85))
      have HL := hid (bmore hL2 (.cells #[.int .i64 p, .int .i64 u] 85))
      have HT2 := hid (Blk.new w1 #[.int .i64 p, .int .i64 u] 85)
      have hlt := hB2.lt
      obtain ⟨v0, v1, _, _⟩ := hV2.two
      have hv := hV2.lt
      clear hb1 HF hB2 hL2 hV2
      go_wp2_with fail
      refine (HW1.out _).mono ?_
      rintro e w2 ⟨rfl, hb2⟩
      have HB2 := hid (HB.out.later hb2)
      have HL2 := hid (bthen HL.out hb2)
      have hV3 := HV.out.later hb2
      have hT3 := HT2.out.later hb2
      obtain ⟨v0, v1, _, _⟩ := hV3.two
      obtain ⟨t0, t1, _, _⟩ := hT3.two
      clear hb2 HB HL HW1 HV HT2 hV3 hT3
      go_wp2_with fail
      refine (HA2.out _ HL2.out).mono ?_
      rintro e w3 ⟨rfl, hb3⟩
      have HB3 := hid (HB2.out.later hb3)
      have HL3 := hid (bthen HL2.out hb3)
      clear HB2 HL2 hb3 HA2 t0 t1 v0 v1
      go_wp2_with fail
      refine (HR.out _ _ _).mono ?_
      rintro e w4 ⟨rfl, hb4⟩
      have HB4 := hid (HB3.out.later hb4)
      have HL4 := hid (bthen HL3.out hb4)
      obtain ⟨c0, c1, c2, f0, f1, f2⟩ := HB4.out.three
      clear HB3 HL3 hb4
      go_wp2
      exact bodyPost_ret (v := .agg #[.int .i64 0, .int .i64 xa, .int .i64 xb]) (by simp [results, Tryd.results46, go_sem, c0, c1, c2]) rfl ⟨rfl, below_cell (below_cell (below_cell HL4.out (by omega) _ _) (by omega) _ _) (by omega) _ _⟩
theorem implBackPair_calls (s n a b : Int) (w : World) (hT : Tab w) :
    Calls Tryd.prog 18 #[.int .i64 s, .int .i64 n, .int .i64 a, .int .i64 b] w fun e w' => e = .returned (.agg #[.int .i64 (tpC s n a b), .int .i64 (bpA s n a b), .int .i64 (bpB s n a b)]) ∧ Below w.heap.size w w' := by
  have HE : Hid ((if (tOk s n && (wd a && wd b)) = true then (0 : Int) else 3) = tpC s n a b ∧ (if (tOk s n && (wd a && wd b)) = true then bkA (pV s n) (uV s n) a b else 0) = bpA s n a b ∧ (if (tOk s n && (wd a && wd b)) = true then bkB (pV s n) (uV s n) a b else 0) = bpB s n a b) := by
    cases hh : (tOk s n && (wd a && wd b))
    · obtain ⟨g1, _, g2⟩ := tp_no (s := s) (n := n) (a := a) (b := b) hh
      rw [if_neg (by decide), if_neg (by decide), if_neg (by decide)]
      exact ⟨g1.symm, g2.1.symm, g2.2.symm⟩
    · obtain ⟨g1, _, g2⟩ := tp_yes (s := s) (n := n) (a := a) (b := b) hh
      rw [if_pos rfl, if_pos rfl, if_pos rfl]
      exact ⟨g1.symm, g2.1.symm, g2.2.symm⟩
  have HP := hid pairOf_calls
  have HB : Hid (∀ W, Calls Tryd.prog 57 #[.agg #[.int .i64 a, .int .i64 b]] W fun e w' => e = .returned (.bool (wd a && wd b)) ∧ Below W.heap.size W w') := fun W => isWide_calls a b W
  have HW := hid (fun W (h1 : tOk s n = true) (h2 : (wd a && wd b) = true) => back_calls (pV s n) (uV s n) a b W (pu_bd h1) (by simp at h2; exact of_inB h2.1) (by simp at h2; exact of_inB h2.2))
  have HT := hid hT
  clear hT
  rw [← HE.out.1, ← HE.out.2.1, ← HE.out.2.2]
  clear HE
  generalize bkA (pV s n) (uV s n) a b = xa at *
  generalize bkB (pV s n) (uV s n) a b = xb at *
  generalize (wd a && wd b) = bt at *
  have HF := hid (fun W (hb : Below w.heap.size w W) => turned_plain 57 58 bt s n a b xa xb W (HT.out.later hb) Tryd.call57 Tryd.call58 HB.out (fun h1 h2 W2 _ => HW.out W2 h1 h2))
  clear HB HW HT
  generalize (if (tOk s n && bt) = true then (0 : Int) else 3) = rc at *
  generalize (if (tOk s n && bt) = true then xa else 0) = ra at *
  generalize (if (tOk s n && bt) = true then xb else 0) = rb at *
  go_enter Tryd.func18, Tryd.ntmps18
  go_wp2_with fail
  refine (HP.out _ _ _).mono ?_
  rintro e w0 ⟨rfl, hb0⟩
  have HB0 := hid ((Blk.new w #[.int .i64 0, .int .i64 0, .int .i64 0] 27).later hb0)
  have HL0 := hid (bthen (bmore (Below.refl _ w) _) hb0)
  clear hb0
  go_wp2_with fail
  refine (HF.out _ HL0.out).mono ?_
  rintro e w1 ⟨rfl, hb1⟩
  have HB1 := hid (HB0.out.later hb1)
  have HL := hid (bthen HL0.out hb1)
  obtain ⟨c0, c1, c2, f0, f1, f2⟩ := HB1.out.three
  clear hb1 HF HB0 HL0
  go_wp2
  exact bodyPost_ret (v := .agg #[.int .i64 rc, .int .i64 ra, .int .i64 rb]) (by simp [results, Tryd.results18, go_sem, c0, c1, c2]) rfl ⟨rfl, below_cell (below_cell (below_cell HL.out (Nat.le_refl _) _ _) (Nat.le_refl _) _ _) (Nat.le_refl _) _ _⟩
theorem implTurnBounds_calls (s n a b : Int) (w : World) (hT : Tab w) :
    Calls Tryd.prog 12 #[.int .i64 s, .int .i64 n, .int .i64 a, .int .i64 b] w fun e w' => e = .returned (.agg #[.int .i64 (tbC s n a b), .int .i64 (tbX s n a b), .int .i64 (tbY s n a b)]) ∧ Below w.heap.size w w' := by
  have HE : Hid ((if (tOk s n && (bdB a && bdB b)) = true then (0 : Int) else 3) = tbC s n a b ∧ (if (tOk s n && (bdB a && bdB b)) = true then tbA (pV s n) (uV s n) a b else 0) = tbX s n a b ∧ (if (tOk s n && (bdB a && bdB b)) = true then tbB (pV s n) (uV s n) a b else 0) = tbY s n a b) := by
    exact ⟨rfl, rfl, rfl⟩
  have HP := hid pairOf_calls
  have HB : Hid (∀ W, Calls Tryd.prog 48 #[.agg #[.int .i64 a, .int .i64 b]] W fun e w' => e = .returned (.bool (bdB a && bdB b)) ∧ Below W.heap.size W w') := fun W => isBounds_calls a b W
  have HW : Hid (∀ W, tOk s n = true → (bdB a && bdB b) = true → ∀ wv, WayV true W wv → Calls Tryd.prog 50 #[wv, .agg #[.int .i64 (pV s n), .int .i64 (uV s n)], .agg #[.int .i64 a, .int .i64 b]] W fun e w' => e = .returned (.agg #[.int .i64 (tbA (pV s n) (uV s n) a b), .int .i64 (tbB (pV s n) (uV s n) a b)]) ∧ Below W.heap.size W w') := fun W h1 h2 wv hv => (turned_calls true (by first | trivial | rfl) wv (pV s n) (uV s n) a b W hv (pu_bd h1) (bd_ok (by simp at h2; exact h2.1)) (bd_ok (by simp at h2; exact h2.2)))
  have HT := hid hT
  clear hT
  rw [← HE.out.1, ← HE.out.2.1, ← HE.out.2.2]
  clear HE
  generalize tbA (pV s n) (uV s n) a b = xa at *
  generalize tbB (pV s n) (uV s n) a b = xb at *
  generalize (bdB a && bdB b) = bt at *
  have HN := hid (fun W => boundsBack_calls W)
  have HF := hid (fun W wv (hb : Below w.heap.size w W) (hv : WayV true W wv) => turned_way 48 50 wv bt s n a b xa xb W (HT.out.later hb) Tryd.call48 Tryd.call50 HB.out (fun h1 h2 W2 hb2 => HW.out W2 h1 h2 wv (hv.later hb2)))
  clear HB HW HT
  generalize (if (tOk s n && bt) = true then (0 : Int) else 3) = rc at *
  generalize (if (tOk s n && bt) = true then xa else 0) = ra at *
  generalize (if (tOk s n && bt) = true then xb else 0) = rb at *
  have hmf : ∀ (fn : Fn) (first cap : Array Value) (w : World), (Instr.makeFunc fn first cap).run Tryd.prog w = .ok (.func fn first cap) w := fun _ _ _ _ => rfl
  go_enter Tryd.func12, Tryd.ntmps12
  go_wp2_with fail
  refine (HP.out _ _ _).mono ?_
  rintro e w0 ⟨rfl, hb0⟩
  have HB0 := hid ((Blk.new w #[.int .i64 0, .int .i64 0, .int .i64 0] 27).later hb0)
  have HL0 := hid (bthen (bmore (Below.refl _ w) _) hb0)
  clear hb0
  go_wp2_with fail
  refine (HN.out _).mono ?_
  rintro e w1 ⟨wv, rfl, hv, hb1⟩
  have HV := hid hv
  have HB1 := hid (HB0.out.later hb1)
  have HL1 := hid (bthen HL0.out hb1)
  clear hb1 HB0 HL0 hv HN
  go_wp2_with fail
  refine (HF.out _ _ HL1.out HV.out).mono ?_
  rintro e w2 ⟨rfl, hb2⟩
  have HB2 := hid (HB1.out.later hb2)
  have HL := hid (bthen HL1.out hb2)
  obtain ⟨c0, c1, c2, f0, f1, f2⟩ := HB2.out.three
  clear hb2 HF HB1 HL1
  go_wp2
  exact bodyPost_ret (v := .agg #[.int .i64 rc, .int .i64 ra, .int .i64 rb]) (by simp [results, Tryd.results12, go_sem, c0, c1, c2]) rfl ⟨rfl, below_cell (below_cell (below_cell HL.out (Nat.le_refl _) _ _) (Nat.le_refl _) _ _) (Nat.le_refl _) _ _⟩
end Go.Proofs.YtbakmphopgkpmaaDoor.TurP
