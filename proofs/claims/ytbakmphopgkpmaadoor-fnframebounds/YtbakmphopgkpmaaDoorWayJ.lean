/- A way back as a value: its steps and its parting, what it makes of a pair; what the program makes new ways of. Condition: the numbers lie within MaxWide (bounds: not below 0), P and U are those of a turn. -/
import Derived.Test.YtbakmphopgkpmaaDoorWayI
import Derived.Test.YtbakmphopgkpmaaDoorMixI
namespace Go.Proofs.YtbakmphopgkpmaaDoor.WayJ
open Go.ChangeShapes Go.WideShapes Go.ChangeAt Go.RowKit Go.Proofs.YtbakmphopgkpmaaDoor.Num Go.Proofs.YtbakmphopgkpmaaDoor.Sli Go.Proofs.YtbakmphopgkpmaaDoor.Samp Go.Proofs.YtbakmphopgkpmaaDoor.Blk Go.Proofs.YtbakmphopgkpmaaDoor.TurM Go.Proofs.YtbakmphopgkpmaaDoor.WayM Go.Proofs.YtbakmphopgkpmaaDoor.MixI Go.Proofs.YtbakmphopgkpmaaDoor.WayI

/-- Which ways this program has, and the numbers of their functions. -/
def has (_ : Bool) : Prop := True
def fA (k : Bool) : FuncId := bif k then 94 else 109
def fB (k : Bool) : FuncId := bif k then 95 else 110
def fP (k : Bool) : FuncId := bif k then 52 else 59
theorem stepA_calls (k : Bool) (hk : has k) (p u a b : Int) (w : World) (hp : 0 ≤ p ∧ p ≤ 688) (ha : wOk k 1000000000000 a) (hb : wOk k 1000000000000 b) :
    Calls Tryd.prog (fA k) #[.agg #[.int .i64 p, .int .i64 u], .agg #[.int .i64 a, .int .i64 b]] w fun e w' => e = .returned (.agg #[.int .i64 (w1 k p a b), .int .i64 b]) ∧ Below w.heap.size w w' := by
  have h1 := pm_bd hp hb
  have h2 := (w1_ok hp ha hb).2
  cases k
  · exact backA_calls p u a b w (by omega) (by have : w1 false p a b = a + tenV (p * b) := rfl; omega)
  · exact widenA_calls p u a b w ⟨h1.1 rfl, by omega⟩ (by have : w1 true p a b = a + ceilV (p * b) 1024 := rfl; omega)
theorem stepB_calls (k : Bool) (hk : has k) (p u a b : Int) (w : World) (hp : 0 ≤ u ∧ u ≤ 688) (ha : wOk k 1000000000000 a) (hb : wOk k 1000000000000 b) :
    Calls Tryd.prog (fB k) #[.agg #[.int .i64 p, .int .i64 u], .agg #[.int .i64 a, .int .i64 b]] w fun e w' => e = .returned (.agg #[.int .i64 a, .int .i64 (w2 k u a b)]) ∧ Below w.heap.size w w' := by
  have h1 := pm_bd hp ha
  have h2 := (w2_ok hp ha hb).2
  cases k
  · exact backB_calls p u a b w (by omega) (by have : w2 false u a b = b - tenV (u * a) := rfl; omega)
  · exact widenB_calls p u a b w ⟨h1.1 rfl, by omega⟩ (by have : w2 true u a b = b + ceilV (u * a) 1024 := rfl; omega)
theorem part_calls (k : Bool) (hk : has k) (a b : Int) (w : World) (ha : wOk k 137438953472 a) (hb : wOk k 137438953472 b) :
    Calls Tryd.prog (fP k) #[.agg #[.int .i64 a, .int .i64 b]] w fun e w' => e = .returned (.agg #[.int .i64 (wP k a b), .int .i64 (wQ k a b)]) ∧ Below w.heap.size w w' := by
  cases k
  · exact parted_calls a b w ha.2 hb.2
  · exact partedBounds_calls a b w ⟨ha.1 rfl, ha.2.2⟩ ⟨hb.1 rfl, hb.2.2⟩
theorem ent_all (k : Bool) (hk : has k) : (∀ args w, (callFunc (fA k) args).run Tryd.prog w = .ok (.enter (fA k) args) w) ∧ (∀ args w, (callFunc (fB k) args).run Tryd.prog w = .ok (.enter (fB k) args) w) ∧ (∀ args w, (callFunc (fP k) args).run Tryd.prog w = .ok (.enter (fP k) args) w) := by
  cases k
  · exact ⟨Tryd.call109, Tryd.call110, Tryd.call59⟩
  · exact ⟨Tryd.call94, Tryd.call95, Tryd.call52⟩
/-- A way as a value: the list of its steps in a block of its own, and its parting. -/
def wayV (k : Bool) (g : Nat) : Value := .agg #[.slice (some ⟨g, 0, none⟩) 3 3, .func (.func (fP k)) #[] #[]]
def stepsV (k : Bool) : Array Value := #[.func (.func (fA k)) #[] #[], .func (.func (fB k)) #[] #[], .func (.func (fA k)) #[] #[]]
def WayV (k : Bool) (W : World) (v : Value) : Prop := ∃ g, v = wayV k g ∧ Blk W g (stepsV k) 115
theorem WayV.later {k : Bool} {W W' : World} {v : Value} (h : WayV k W v) (hb : Below W.heap.size W W') : WayV k W' v := by
  obtain ⟨g, e, h⟩ := h; exact ⟨g, e, h.later hb⟩
/-- What the steps keep: the way's block, the turn's, the pair's, the answer's. -/
structure KW (w : World) (g : Nat) (sv : Array Value) (pv : Value) (p u a b : Int) (W : World) : Prop where
  s : Blk W g sv 115
  y : Blk W w.heap.size #[.slice (some ⟨g, 0, none⟩) 3 3, pv] 77
  t : Blk W (w.heap.size + 1) #[.int .i64 p, .int .i64 u] 85
  v : Blk W (w.heap.size + 1 + 1) #[.int .i64 a, .int .i64 b] 69
  r : Blk W (w.heap.size + 1 + 1 + 1) #[.int .i64 0, .int .i64 0] 69
  b : Below w.heap.size w W
theorem KW.later {w W W' : World} {g : Nat} {sv : Array Value} {pv : Value} {p u a b : Int} (h : KW w g sv pv p u a b W) (hb : Below W.heap.size W W') : KW w g sv pv p u a b W' :=
  ⟨h.s.later hb, h.y.later hb, h.t.later hb, h.v.later hb, h.r.later hb, bthen h.b hb⟩
theorem KW.set {w W : World} {g : Nat} {sv : Array Value} {pv : Value} {p u a b : Int} (h : KW w g sv pv p u a b W) (hg : g < w.heap.size) (x y : Int) :
    KW w g sv pv p u x y ((W.setCell ⟨w.heap.size + 1 + 1, 0, none⟩ (.int .i64 x)).setCell ⟨w.heap.size + 1 + 1, 1, none⟩ (.int .i64 y)) :=
  ⟨(h.s.other (by omega) _ _).other (by omega) _ _, (h.y.other (by omega) _ _).other (by omega) _ _, (h.t.other (by omega) _ _).other (by omega) _ _, (h.v.set 0 _).set 1 _, (h.r.other (by omega) _ _).other (by omega) _ _, below_cell (below_cell h.b (by omega) _ _) (by omega) _ _⟩
theorem KW.new {w : World} {g : Nat} {sv : Array Value} (h : Blk w g sv 115) (pv : Value) (p u a b : Int) :
    KW w g sv pv p u a b ((((w.alloc (.cells #[.slice (some ⟨g, 0, none⟩) 3 3, pv] 77)).alloc (.cells #[.int .i64 p, .int .i64 u] 85)).alloc (.cells #[.int .i64 a, .int .i64 b] 69)).alloc (.cells #[.int .i64 0, .int .i64 0] 69)) := by
  obtain ⟨h1, h2, h3, h4, h5⟩ := boxes3 (w := w) (A := #[.slice (some ⟨g, 0, none⟩) 3 3, pv]) (B := #[.int .i64 p, .int .i64 u]) (C := #[.int .i64 a, .int .i64 b]) (t := 77) (u := 85) (s := 69) (Below.refl _ _)
  refine ⟨(h.later h4).alloc _, h1.alloc _, h2.alloc _, h3.alloc _, ?_, bmore h4 _⟩
  have := Blk.new (((w.alloc (.cells #[.slice (some ⟨g, 0, none⟩) 3 3, pv] 77)).alloc (.cells #[.int .i64 p, .int .i64 u] 85)).alloc (.cells #[.int .i64 a, .int .i64 b] 69)) #[.int .i64 0, .int .i64 0] 69
  rwa [World.size_alloc, World.size_alloc, World.size_alloc] at this

set_option maxRecDepth 100000 in
set_option maxHeartbeats 4000000 in
/-- All three steps. -/
theorem turned_calls (k : Bool) (hk : has k) (wv : Value) (p u a b : Int) (w : World) (hv : WayV k w wv) (hp : 1 ≤ p ∧ p ≤ 395 ∧ 1 ≤ u ∧ u ≤ 688) (ha : wOk k 137438953472 a) (hb : wOk k 137438953472 b) :
    Calls Tryd.prog 50 #[wv, .agg #[.int .i64 p, .int .i64 u], .agg #[.int .i64 a, .int .i64 b]] w fun e w' => e = .returned (.agg #[.int .i64 (wA k p u a b), .int .i64 (wB k p u a b)]) ∧ Below w.heap.size w w' := by
  obtain ⟨g, rfl, hB⟩ := hv
  have o1 := w1_ok (p := p) (by omega) ha hb
  have o2 := w2_ok (u := u) (by omega) o1 (hb.mono (N := 2 * 137438953472 + 1) (by omega))
  have H1 := hid (fun W => stepA_calls k hk p u a b W (by omega) (ha.mono (by omega)) (hb.mono (by omega)))
  have H2 := hid (fun W => stepB_calls k hk p u (w1 k p a b) b W (by omega) (o1.mono (by omega)) (hb.mono (by omega)))
  have H3 := hid (fun W => stepA_calls k hk p u (w1 k p a b) (w2 k u (w1 k p a b) b) W (by omega) (o1.mono (by omega)) (o2.mono (by omega)))
  obtain ⟨qA, qB, qP⟩ := ent_all k hk
  have HE : Hid (wA k p u a b = w1 k p (w1 k p a b) (w2 k u (w1 k p a b) b) ∧ wB k p u a b = w2 k u (w1 k p a b) b) := ⟨rfl, rfl⟩
  have hg := hB.lt
  have HK0 := hid (KW.new hB (.func (.func (fP k)) #[] #[]) p u a b)
  rw [HE.out.1, HE.out.2]
  clear HE o1 o2 ha hb hB hp hk
  unfold wayV stepsV at *
  generalize w1 k p (w1 k p a b) (w2 k u (w1 k p a b) b) = a2 at *
  generalize w2 k u (w1 k p a b) b = b1 at *
  generalize w1 k p a b = a1 at *
  generalize fA k = nA at *
  generalize fB k = nB at *
  generalize fP k = nP at *
  go_enter Tryd.func50, Tryd.ntmps50
  go_wp2_with fail
  generalize (((w.alloc (.cells #[.slice (some ⟨g, 0, none⟩) 3 3, .func (.func nP) #[] #[]] 77)).alloc (.cells #[.int .i64 p, .int .i64 u] 85)).alloc (.cells #[.int .i64 a, .int .i64 b] 69)).alloc (.cells #[.int .i64 0, .int .i64 0] 69) = w0 at *
  go_loopw [12] (fun i wr => (i = .int .i64 0 ∧ Hid (KW w g #[.func (.func nA) #[] #[], .func (.func nB) #[] #[], .func (.func nA) #[] #[]] (.func (.func nP) #[] #[]) p u a b wr)) ∨ (i = .int .i64 1 ∧ Hid (KW w g #[.func (.func nA) #[] #[], .func (.func nB) #[] #[], .func (.func nA) #[] #[]] (.func (.func nP) #[] #[]) p u a1 b wr)) ∨ (i = .int .i64 2 ∧ Hid (KW w g #[.func (.func nA) #[] #[], .func (.func nB) #[] #[], .func (.func nA) #[] #[]] (.func (.func nP) #[] #[]) p u a1 b1 wr)) ∨ (i = .int .i64 3 ∧ Hid (KW w g #[.func (.func nA) #[] #[], .func (.func nB) #[] #[], .func (.func nA) #[] #[]] (.func (.func nP) #[] #[]) p u a2 b1 wr))) (fun i _ => 3 - (intOf i).toNat)
  case atStart => exact .inl ⟨rfl, HK0⟩
  case round =>
    clear HK0
    rcases hrel with ⟨rfl, HK⟩ | ⟨rfl, HK⟩ | ⟨rfl, HK⟩ | ⟨rfl, HK⟩
    · obtain ⟨s0, s1, s2, _⟩ := HK.out.s.three
      obtain ⟨t0, t1, _, _⟩ := HK.out.t.two
      obtain ⟨v0, v1, _, _⟩ := HK.out.v.two
      go_wp2_with fail
      refine (H1.out _).mono ?_
      rintro e w5 ⟨rfl, hb5⟩
      have HK5 := hid (HK.out.later hb5)
      obtain ⟨v0, v1, q0, q1⟩ := HK5.out.v.two
      have HK6 := hid (HK5.out.set hg a1 b)
      clear hb5 HK s0 s1 s2 t0 t1 HK5
      go_wp2
      go_roundw
      case rel => exact .inr (.inl ⟨by go_num, HK6⟩)
      case measure => simp [intOf]
    · obtain ⟨s0, s1, s2, _⟩ := HK.out.s.three
      obtain ⟨t0, t1, _, _⟩ := HK.out.t.two
      obtain ⟨v0, v1, _, _⟩ := HK.out.v.two
      go_wp2_with fail
      refine (H2.out _).mono ?_
      rintro e w5 ⟨rfl, hb5⟩
      have HK5 := hid (HK.out.later hb5)
      obtain ⟨v0, v1, q0, q1⟩ := HK5.out.v.two
      have HK6 := hid (HK5.out.set hg a1 b1)
      clear hb5 HK s0 s1 s2 t0 t1 HK5
      go_wp2
      go_roundw
      case rel => exact .inr (.inr (.inl ⟨by go_num, HK6⟩))
      case measure => simp [intOf]
    · obtain ⟨s0, s1, s2, _⟩ := HK.out.s.three
      obtain ⟨t0, t1, _, _⟩ := HK.out.t.two
      obtain ⟨v0, v1, _, _⟩ := HK.out.v.two
      go_wp2_with fail
      refine (H3.out _).mono ?_
      rintro e w5 ⟨rfl, hb5⟩
      have HK5 := hid (HK.out.later hb5)
      obtain ⟨v0, v1, q0, q1⟩ := HK5.out.v.two
      have HK6 := hid (HK5.out.set hg a2 b1)
      clear hb5 HK s0 s1 s2 t0 t1 HK5
      go_wp2
      go_roundw
      case rel => exact .inr (.inr (.inr ⟨by go_num, HK6⟩))
      case measure => simp [intOf]
    · obtain ⟨v0, v1, _, _⟩ := HK.out.v.two
      obtain ⟨r0, r1, q0, q1⟩ := HK.out.r.two
      go_wp2
      exact bodyPost_ret (v := .agg #[.int .i64 a2, .int .i64 b1]) (by simp [results, Tryd.results50, go_sem, r0, r1]) rfl ⟨rfl, below_cell (below_cell HK.out.b (by omega) _ _) (by omega) _ _⟩
theorem numbersBack_calls (w : World) :
    Calls Tryd.prog 70 #[] w fun e w' => ∃ v, e = .returned v ∧ WayV false w' v ∧ Below w.heap.size w w' := by
  have hsf := fun (a : Addr) (n : FuncId) (w : World) => run_store Tryd.prog w a (.func (.func n) #[] #[]) .plain rfl
  have HB : ∀ o, Blk ((w.alloc (.cells o 77)).alloc (.cells (stepsV false) 115)) (w.heap.size + 1) (stepsV false) 115 := by
    intro o
    have := Blk.new (w.alloc (.cells o 77)) (stepsV false) 115
    rwa [World.size_alloc] at this
  go_enter Tryd.func70, Tryd.ntmps70
  go_wp2
  exact bodyPost_ret (v := .agg #[.slice (some ⟨w.heap.size + 1, 0, none⟩) 3 3, .func (.func 59) #[] #[]]) (by simp [results, Tryd.results70, go_sem]) rfl ⟨_, rfl, ⟨_, rfl, HB _⟩, bmore (bmore (Below.refl _ _) _) _⟩
theorem boundsBack_calls (w : World) :
    Calls Tryd.prog 49 #[] w fun e w' => ∃ v, e = .returned v ∧ WayV true w' v ∧ Below w.heap.size w w' := by
  have hsf := fun (a : Addr) (n : FuncId) (w : World) => run_store Tryd.prog w a (.func (.func n) #[] #[]) .plain rfl
  have HB : ∀ o, Blk ((w.alloc (.cells o 77)).alloc (.cells (stepsV true) 115)) (w.heap.size + 1) (stepsV true) 115 := by
    intro o
    have := Blk.new (w.alloc (.cells o 77)) (stepsV true) 115
    rwa [World.size_alloc] at this
  go_enter Tryd.func49, Tryd.ntmps49
  go_wp2
  exact bodyPost_ret (v := .agg #[.slice (some ⟨w.heap.size + 1, 0, none⟩) 3 3, .func (.func 52) #[] #[]]) (by simp [results, Tryd.results49, go_sem]) rfl ⟨_, rfl, ⟨_, rfl, HB _⟩, bmore (bmore (Below.refl _ _) _) _⟩
/-- What back keeps: the turn's block, the pair's, the answer's. -/
def KR (w : World) (p u a b : Int) (W : World) : Prop :=
  Blk W w.heap.size #[.int .i64 p, .int .i64 u] 85 ∧ Blk W (w.heap.size + 1) #[.int .i64 a, .int .i64 b] 69 ∧ (∃ x y : Int, Blk W (w.heap.size + 1 + 1) #[.int .i64 x, .int .i64 y] 69) ∧ Below w.heap.size w W
theorem KR.later {w W W' : World} {p u a b : Int} (h : KR w p u a b W) (hb : Below W.heap.size W W') : KR w p u a b W' := by
  obtain ⟨h1, h2, ⟨x, y, h3⟩, h4⟩ := h
  exact ⟨h1.later hb, h2.later hb, ⟨x, y, h3.later hb⟩, bthen h4 hb⟩
theorem KR.set {w W : World} {p u a b : Int} (h : KR w p u a b W) (x y : Int) : KR w p u a b ((W.setCell ⟨w.heap.size + 1 + 1, 0, none⟩ (.int .i64 x)).setCell ⟨w.heap.size + 1 + 1, 1, none⟩ (.int .i64 y)) := by
  obtain ⟨h1, h2, ⟨_, _, h3⟩, h4⟩ := h
  exact ⟨(h1.other (by omega) _ _).other (by omega) _ _, (h2.other (by omega) _ _).other (by omega) _ _, ⟨x, y, (h3.set 0 _).set 1 _⟩, below_cell (below_cell h4 (by omega) _ _) (by omega) _ _⟩
set_option maxHeartbeats 2000000 in
theorem back_calls (p u a b : Int) (w : World) (hp : 1 ≤ p ∧ p ≤ 395 ∧ 1 ≤ u ∧ u ≤ 688) (ha : -137438953472 ≤ a ∧ a ≤ 137438953472) (hb : -137438953472 ≤ b ∧ b ≤ 137438953472) :
    Calls Tryd.prog 58 #[.agg #[.int .i64 p, .int .i64 u], .agg #[.int .i64 a, .int .i64 b]] w fun e w' => e = .returned (.agg #[.int .i64 (bkA p u a b), .int .i64 (bkB p u a b)]) ∧ Below w.heap.size w w' := by
  have HN := hid numbersBack_calls
  have HD := hid (fun W wv (hv : WayV false W wv) => turned_calls false (by first | trivial | rfl) wv p u a b W hv hp (wd_ok ha) (wd_ok hb))
  rw [wA_no, wB_no] at HD
  generalize bkA p u a b = xa at *
  generalize bkB p u a b = xb at *
  have hK := KS.new w p u a b
  clear hp ha hb
  go_enter Tryd.func58, Tryd.ntmps58
  go_upto_region 1 with fail
  generalize ((w.alloc (.cells #[.int .i64 p, .int .i64 u] 85)).alloc (.cells #[.int .i64 a, .int .i64 b] 69)).alloc (.cells #[.int .i64 0, .int .i64 0] 69) = wr at *
  have hR0 : KR w p u a b wr.drew := ⟨hK.t, hK.v, ⟨0, 0, hK.r⟩, hK.b.drew⟩
  clear hK
  refine wp_region_noPanic ?_
  refine wp_region_held_drew (S := fun W => KR w p u a b W) (by kernel_rfl) (by first | exact hR9s | exact hR9 | exact hR1 | exact hR0) (fun hHeld => ?_)
  (refine wpAnyH_take (i := 1) (v := ?_) rfl (by kernel_rfl) (by kernel_rfl) (by kernel_rfl) (fun _ _ _ h => h) (Or.inl ⟨by rfl, ?_⟩) hHeld ?_; rotate_left; (intro w hSw; (obtain ⟨s0, s1, _, _⟩ := hSw; obtain ⟨p0, p1, _, _⟩ := s0.two; obtain ⟨p2, p3, _, _⟩ := s1.two; clear s0 s1); (go_simp <;> with_reducible rfl)); simp only [List.getElem_toArray, List.getElem_cons_zero, List.getElem_cons_succ, Act.put, List.setIfInBounds_toArray, List.set_cons_zero, List.set_cons_succ])
  (refine wpAnyH_take (i := 2) (v := ?_) rfl (by kernel_rfl) (by kernel_rfl) (by kernel_rfl) (fun _ _ _ h => h) (Or.inl ⟨by rfl, ?_⟩) hHeld ?_; rotate_left; (intro w hSw; (obtain ⟨s0, s1, _, _⟩ := hSw; obtain ⟨p0, p1, _, _⟩ := s0.two; obtain ⟨p2, p3, _, _⟩ := s1.two; clear s0 s1); (go_simp <;> with_reducible rfl)); simp only [List.getElem_toArray, List.getElem_cons_zero, List.getElem_cons_succ, Act.put, List.setIfInBounds_toArray, List.set_cons_zero, List.set_cons_succ])
  refine wpAnyH_ready (rs := [0]) (by kernel_rfl) (by simp) ?_
  refine (AllReadyH.cons rfl (fun K hK => ?_) AllReadyH.nil)
  go_simp
  (refine (HN.out _).mono ?_; rintro e W1 ⟨wv, rfl, hv1, hb1⟩; have hR1 := KR.later hHeld hb1)
  refine hK.out _ _ (by first | exact hR9s | exact hR9 | exact hR1 | exact hR0) (fun hHeld => ?_)
  clear hK K
  try dsimp only
  refine wpAnyH_ready (rs := [3]) (by kernel_rfl) (by simp) ?_
  refine (AllReadyH.cons rfl (fun K hK => ?_) AllReadyH.nil)
  go_simp
  (refine (HD.out _ _ hv1).mono ?_; rintro e W9 ⟨rfl, hb9⟩; have hR9 := KR.later hHeld hb9; have hR9s := hR9.set xa xb; obtain ⟨_, _, ⟨x9, y9, hr9⟩, _⟩ := id hR9; obtain ⟨r0, r1, q0, q1⟩ := hr9.two)
  refine hK.out _ _ (by first | exact hR9s | exact hR9 | exact hR1 | exact hR0) (fun hHeld => ?_)
  clear hK K
  try dsimp only
  refine wpAnyH_ready (rs := [4]) (by kernel_rfl) (by simp) ?_
  refine (AllReadyH.cons rfl (fun K hK => ?_) AllReadyH.nil)
  go_simp
  skip
  refine hK.out _ _ (by first | exact hR9s | exact hR9 | exact hR1 | exact hR0) (fun hHeld => ?_)
  clear hK K
  try simp only [List.getElem_toArray, List.getElem_cons_zero, List.getElem_cons_succ, Act.put, List.setIfInBounds_toArray, List.set_cons_zero, List.set_cons_succ]
  refine wpAnyH_done (by kernel_rfl) ?_ _
  refine NoPanic.normal ?_
  go_wp2
  exact bodyPost_ret (v := .agg #[.int .i64 xa, .int .i64 xb]) (by simp [results, Tryd.results58, go_sem, r0, r1]) rfl ⟨rfl, hHeld.2.2.2⟩
end Go.Proofs.YtbakmphopgkpmaaDoor.WayJ
