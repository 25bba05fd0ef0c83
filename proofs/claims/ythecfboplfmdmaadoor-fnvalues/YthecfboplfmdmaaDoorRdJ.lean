/- The program's reader: a piece, a class, a value is read. -/
import Derived.Test.YthecfboplfmdmaaDoorRdI
namespace Go.Proofs.YthecfboplfmdmaaDoor.RdJ
open Go.ChangeShapes Go.WideShapes Go.ChangeAt Go.RowKit Go.Proofs.YthecfboplfmdmaaDoor.Num Go.Proofs.YthecfboplfmdmaaDoor.Sli Go.Proofs.YthecfboplfmdmaaDoor.App Go.Proofs.YthecfboplfmdmaaDoor.Byt Go.Proofs.YthecfboplfmdmaaDoor.CrcM Go.Proofs.YthecfboplfmdmaaDoor.Div Go.Proofs.YthecfboplfmdmaaDoor.Dec Go.Proofs.YthecfboplfmdmaaDoor.Blk Go.Proofs.YthecfboplfmdmaaDoor.Nxt Go.Proofs.YthecfboplfmdmaaDoor.Byte Go.Proofs.YthecfboplfmdmaaDoor.TakS Go.Proofs.YthecfboplfmdmaaDoor.TakT Go.Proofs.YthecfboplfmdmaaDoor.RangeM Go.Proofs.YthecfboplfmdmaaDoor.SlS Go.Proofs.YthecfboplfmdmaaDoor.ValZ Go.Proofs.YthecfboplfmdmaaDoor.ValI Go.Proofs.YthecfboplfmdmaaDoor.ValJ Go.Proofs.YthecfboplfmdmaaDoor.ValK Go.Proofs.YthecfboplfmdmaaDoor.ValM Go.Proofs.YthecfboplfmdmaaDoor.RdM Go.Proofs.YthecfboplfmdmaaDoor.RdI

theorem fieldI1 (c v : Value) (w : World) : (Instr.field 70 (.agg #[c, v]) 1).run Tryd.prog w = .ok v w := by kernel_rfl
theorem fieldL0 (a b c : Value) (w : World) : (Instr.field 75 (.agg #[a, b, c]) 0).run Tryd.prog w = .ok a w := by kernel_rfl
attribute [local go_sem] fieldI1 fieldL0
theorem d_len {d : Dv} {m : Nat} (h : dOk d m) : d.xs.length ≤ 1048576 := by have := (of_dF h.f).1; omega
/-- What is next, where nothing has a fault. -/
theorem next_ok {d : Dv} {m : Nat} (h : dOk d m) {tot : Int} (h1 : 1 ≤ tot) (h2 : tot ≤ 1024) : nC d.xs.length d.at' d.rst d.rng tot = 0 ∧ nO d.xs.length d.at' d.rst d.rng tot = nV d.rst d.rng tot := by
  unfold nC nO
  rw [if_pos h.f, if_pos h.f, inB_yes h1 h2]
  exact ⟨rfl, rfl⟩
/-- What the reader's piece keeps ahead of its take. -/
structure RP (w : World) (g P : Nat) (d : Dv) (v : Value) (tot : Int) (W : World) : Prop where
  r : RB g d v W
  s : Blk W P #[.int .i64 0, .int .i64 1, .int .i64 tot] 75
  b : Below w.heap.size w W
theorem RP.later {w : World} {g P : Nat} {d : Dv} {v : Value} {tot : Int} {W W' : World} (h : RP w g P d v tot W) (hb : Below W.heap.size W W') : RP w g P d v tot W' := ⟨h.r.later hb, h.s.later hb, bthen h.b hb⟩
theorem RP.drew {w : World} {g P : Nat} {d : Dv} {v : Value} {tot : Int} {W : World} (h : RP w g P d v tot W) : RP w g P d v tot W.drew := ⟨h.r.drew, h.s, h.b.drew⟩
set_option maxHeartbeats 2000000 in
theorem piece_calls (g : Nat) (d : Dv) (v : Value) (k m : Nat) (w : World) (h : RB g d v w) (hd : dOk d m) (hm : m ≤ 400) (hk : k ≤ 8) :
    Calls Tryd.prog 81 #[.pointer (some ⟨g, 0, none⟩), .int .i64 (k : Int)] w fun e w' => e = .returned (.int .i64 (pN d k : Int)) ∧ ∃ v', RB g (pD d k) v' w' ∧ w.grownBy w' (some g) := by
  have HPS := hid (fun W => pieceSlot_calls k 0 W hk (by omega))
  obtain ⟨p1, p2, p3, p4⟩ := p_ok hd hm hk
  obtain ⟨q1, q2⟩ := pN_lt hd hk
  have hT1 : 1 ≤ ((2 ^ k : Nat) : Int) ∧ ((2 ^ k : Nat) : Int) ≤ 256 := by
    have h1 : 2 ^ k ≤ 2 ^ 8 := Nat.pow_le_pow_right (by decide) hk
    have h2 := Nat.two_pow_pos k
    omega
  obtain ⟨n1, n2⟩ := next_ok hd (tot := ((2 ^ k : Nat) : Int)) hT1.1 (by omega)
  have HNx := hid (fun aa cc W => implNext_calls aa d.xs.length cc d.at' d.rst d.rng ((2 ^ k : Nat) : Int) W (d_len hd))
  rw [n1, n2, ← q2] at HNx
  have HTk := hid (fun u W (hu : RB g d u W) => take_calls g d (pD d k) u (pN d k : Int) 1 ((2 ^ k : Nat) : Int) W hu hd.x (d_len hd) p1 p2)
  have hgl := h.k.lt
  rw [Nat.zero_mod] at HPS
  obtain ⟨av, cv, rfl, _⟩ := h.o.sl
  have HR := hid h
  clear p1 p2 p3 p4 q1 q2 n1 n2 h hd
  generalize ((2 ^ k : Nat) : Int) = T at *
  generalize (pN d k : Int) = N at *
  generalize pD d k = d' at *
  obtain ⟨xs, at', rst, rng⟩ := d
  dsimp only at *
  go_enter Tryd.func81, Tryd.ntmps81
  go_wp2_with fail
  refine (HPS.out _).mono ?_
  rintro e w1 ⟨rfl, hb1⟩
  have hw1 := hb1.size
  have hP : RP w g w1.heap.size ⟨xs, at', rst, rng⟩ (.slice av xs.length cv) T (w1.alloc (.cells #[.int .i64 0, .int .i64 1, .int .i64 T] 75)) := ⟨(HR.out.later hb1).later (bmore (Below.refl _ _) _), Blk.new _ _ _, bmore hb1 _⟩
  have hPd := hP.drew
  have hPg : w1.heap.size ≠ g := by omega
  clear hb1 HPS HR
  go_wp2_with fail
  generalize w1.alloc (.cells #[.int .i64 0, .int .i64 1, .int .i64 T] 75) = w2 at *
  generalize w1.heap.size = P at *
  refine wp_region_noPanic ?_
  refine wp_region_held_drew (S := fun W => RB g ⟨xs, at', rst, rng⟩ (.slice av xs.length cv) W ∧ W.cell? ⟨P, 2, none⟩ = some (.int .i64 T)) (by kernel_rfl) (by first | exact hP9 | exact hL9 | exact ⟨hPd.r, hPd.s.cell 2⟩) (fun hHeld => ?_)
  (refine wpAnyH_take (i := 0) (v := ?_) rfl (by kernel_rfl) (by kernel_rfl) (by kernel_rfl) (fun _ _ _ h => h) (Or.inl ⟨by rfl, ?_⟩) hHeld ?_; rotate_left; (intro w hSw; (obtain ⟨t0, t1, t2, t3, _⟩ := hSw.1.k.four; have s2 := hSw.2; clear hSw; dsimp only at t0 t1 t2 t3); (go_simp <;> with_reducible rfl)); simp only [List.getElem_toArray, List.getElem_cons_zero, Act.put, List.setIfInBounds_toArray, List.set_cons_zero, List.set_cons_succ])
  (refine wpAnyH_take (i := 1) (v := ?_) rfl (by kernel_rfl) (by kernel_rfl) (by kernel_rfl) (fun _ _ _ h => h) (Or.inl ⟨by rfl, ?_⟩) hHeld ?_; rotate_left; (intro w hSw; (obtain ⟨t0, t1, t2, t3, _⟩ := hSw.1.k.four; have s2 := hSw.2; clear hSw; dsimp only at t0 t1 t2 t3); (go_simp <;> with_reducible rfl)); simp only [List.getElem_toArray, List.getElem_cons_zero, List.getElem_cons_succ, Act.put, List.setIfInBounds_toArray, List.set_cons_zero, List.set_cons_succ])
  (refine wpAnyH_take (i := 2) (v := ?_) rfl (by kernel_rfl) (by kernel_rfl) (by kernel_rfl) (fun _ _ _ h => h) (Or.inl ⟨by rfl, ?_⟩) hHeld ?_; rotate_left; (intro w hSw; (obtain ⟨t0, t1, t2, t3, _⟩ := hSw.1.k.four; have s2 := hSw.2; clear hSw; dsimp only at t0 t1 t2 t3); (go_simp <;> with_reducible rfl)); simp only [List.getElem_toArray, List.getElem_cons_zero, List.getElem_cons_succ, Act.put, List.setIfInBounds_toArray, List.set_cons_zero, List.set_cons_succ])
  (refine wpAnyH_take (i := 3) (v := ?_) rfl (by kernel_rfl) (by kernel_rfl) (by kernel_rfl) (fun _ _ _ h => h) (Or.inl ⟨by rfl, ?_⟩) hHeld ?_; rotate_left; (intro w hSw; (obtain ⟨t0, t1, t2, t3, _⟩ := hSw.1.k.four; have s2 := hSw.2; clear hSw; dsimp only at t0 t1 t2 t3); (go_simp <;> with_reducible rfl)); simp only [List.getElem_toArray, List.getElem_cons_zero, List.getElem_cons_succ, Act.put, List.setIfInBounds_toArray, List.set_cons_zero, List.set_cons_succ])
  (refine wpAnyH_take (i := 4) (v := ?_) rfl (by kernel_rfl) (by kernel_rfl) (by kernel_rfl) (fun _ _ _ h => h) (Or.inl ⟨by rfl, ?_⟩) hHeld ?_; rotate_left; (intro w hSw; (obtain ⟨t0, t1, t2, t3, _⟩ := hSw.1.k.four; have s2 := hSw.2; clear hSw; dsimp only at t0 t1 t2 t3); (go_simp <;> with_reducible rfl)); simp only [List.getElem_toArray, List.getElem_cons_zero, List.getElem_cons_succ, Act.put, List.setIfInBounds_toArray, List.set_cons_zero, List.set_cons_succ])
  (refine wpAnyH_take (i := 5) (v := ?_) rfl (by kernel_rfl) (by kernel_rfl) (by kernel_rfl) (fun _ _ _ h => h) (Or.inl ⟨by rfl, ?_⟩) hHeld ?_; rotate_left; (intro w hSw; (obtain ⟨t0, t1, t2, t3, _⟩ := hSw.1.k.four; have s2 := hSw.2; clear hSw; dsimp only at t0 t1 t2 t3); (go_simp <;> with_reducible rfl)); simp only [List.getElem_toArray, List.getElem_cons_zero, List.getElem_cons_succ, Act.put, List.setIfInBounds_toArray, List.set_cons_zero, List.set_cons_succ])
  refine wpAnyH_ready (rs := [6]) (by kernel_rfl) (by simp) ?_
  refine (AllReadyH.cons rfl (fun K hK => ?_) AllReadyH.nil)
  go_simp
  (refine (HNx.out _ _ _).mono ?_; rintro e w9 ⟨rfl, hb9⟩; have hK9 := hPd.later hb9; have hL9 := And.intro hK9.r (hK9.s.cell 2); obtain ⟨y0, y1, y2, f0, f1, f2⟩ := hK9.s.three; have hP9 := And.intro (RB.mk (hK9.r.k.other hPg 0 (.int .i64 N)) (ow_apart hK9.r.o hK9.s (by decide) (grown_set w9 P 0 (.int .i64 N)))) ((hK9.s.set 0 (.int .i64 N)).cell 2))
  refine hK.out _ _ (by first | exact hP9 | exact hL9 | exact ⟨hPd.r, hPd.s.cell 2⟩) (fun hHeld => ?_)
  clear hK K
  try dsimp only
  (refine wpAnyH_take (i := 7) (v := ?_) rfl (by kernel_rfl) (by kernel_rfl) (by kernel_rfl) (fun _ _ _ h => h) (Or.inl ⟨by rfl, ?_⟩) hHeld ?_; rotate_left; (intro w hSw; (obtain ⟨t0, t1, t2, t3, _⟩ := hSw.1.k.four; have s2 := hSw.2; clear hSw; dsimp only at t0 t1 t2 t3); (go_simp <;> with_reducible rfl)); simp only [List.getElem_toArray, List.getElem_cons_zero, List.getElem_cons_succ, Act.put, List.setIfInBounds_toArray, List.set_cons_zero, List.set_cons_succ])
  (refine wpAnyH_take (i := 8) (v := ?_) rfl (by kernel_rfl) (by kernel_rfl) (by kernel_rfl) (fun _ _ _ h => h) (Or.inl ⟨by rfl, ?_⟩) hHeld ?_; rotate_left; (intro w hSw; (obtain ⟨t0, t1, t2, t3, _⟩ := hSw.1.k.four; have s2 := hSw.2; clear hSw; dsimp only at t0 t1 t2 t3); (go_simp <;> with_reducible rfl)); simp only [List.getElem_toArray, List.getElem_cons_zero, List.getElem_cons_succ, Act.put, List.setIfInBounds_toArray, List.set_cons_zero, List.set_cons_succ])
  refine wpAnyH_ready (rs := [9]) (by kernel_rfl) (by simp) ?_
  refine (AllReadyH.cons rfl (fun K hK => ?_) AllReadyH.nil)
  go_simp
  skip
  refine hK.out _ _ (by first | exact hP9 | exact hL9 | exact ⟨hPd.r, hPd.s.cell 2⟩) (fun hHeld => ?_)
  clear hK K
  try simp only [List.getElem_toArray, List.getElem_cons_zero, List.getElem_cons_succ, Act.put, List.setIfInBounds_toArray, List.set_cons_zero, List.set_cons_succ]
  refine wpAnyH_done (by kernel_rfl) ?_ _
  refine NoPanic.normal ?_
  have HRb := hid hP9.1
  have HS := hid (hK9.s.set 0 (.int .i64 N))
  have HB := hid (below_cell hK9.b (show w.heap.size ≤ P by omega) 0 (.int .i64 N))
  clear hHeld hP9 hL9 hK9 hb9 y0 y1 y2 f0 f1 f2 hPd hP HNx
  generalize w9.setCell ⟨P, 0, none⟩ (.int .i64 N) = w10 at *
  obtain ⟨y0, y1, y2, _⟩ := HS.out.three
  go_wp2_with fail
  refine (HTk.out _ _ HRb.out).mono ?_
  rintro e w11 ⟨rfl, v', hR, hg⟩
  have hS2 := HS.out.kept hg (fun e => hPg (Option.some.inj e).symm)
  obtain ⟨y0, y1, y2, _⟩ := hS2.three
  have HR2 := hid hR
  have HG2 := hid (grown_same (grown_of_below HB.out (some g)) hg)
  clear hR hg HTk HRb HS HB hS2
  go_wp2
  go_ret
  exact ⟨rfl, v', HR2.out, HG2.out⟩
theorem class_step {d : Dv} {m c : Nat} (h : dOk d m) (hc : c ≤ kN d) : (c < kN d → c < 17 ∧ (lwc c : Int) + (shr c : Int) ≤ nV d.rst d.rng 256) ∧ (¬ c < kN d → c = 17 ∨ c < 17 ∧ nV d.rst d.rng 256 < (lwc c : Int) + (shr c : Int)) := by
  obtain ⟨k1, k2, k3, _⟩ := kN_lt h
  refine ⟨fun hlt => ⟨by omega, ?_⟩, fun hn => ?_⟩
  · have := lwc_step (kN d) k1 c hlt
    omega
  · obtain rfl : c = kN d := by omega
    omega
set_option maxRecDepth 100000 in
set_option maxHeartbeats 2000000 in
theorem class_calls (g : Nat) (d : Dv) (v : Value) (m : Nat) (w : World) (h : RB g d v w) (hd : dOk d m) (hm : m ≤ 400) :
    Calls Tryd.prog 80 #[.pointer (some ⟨g, 0, none⟩)] w fun e w' => e = .returned (.int .i64 (kN d : Int)) ∧ ∃ v', RB g (kD d) v' w' ∧ w.grownBy w' (some g) := by
  obtain ⟨p1, p2, p3, p4⟩ := k_ok hd hm
  obtain ⟨q1, q2, q3, q4, q5⟩ := kN_lt hd
  obtain ⟨n1, n2⟩ := next_ok hd (tot := 256) (by omega) (by omega)
  have HNx := hid (fun aa cc W => implNext_calls aa d.xs.length cc d.at' d.rst d.rng 256 W (d_len hd))
  rw [n1, n2] at HNx
  have HTk := hid (fun u W (hu : RB g d u W) => take_calls g d (kD d) u (lwc (kN d) : Int) (shr (kN d) : Int) 256 W hu hd.x (d_len hd) p1 p2)
  have HCs := hid (fun c (hc : c ≤ kN d) => class_step hd hc)
  have HSl := hid slot_calls
  have HSz := hid size_calls
  have hgl := h.k.lt
  obtain ⟨av, cv, rfl, _⟩ := h.o.sl
  have HR := hid h
  clear p1 p2 p3 p4 q2 q3 n1 n2 h hd
  generalize nV d.rst d.rng 256 = nv at *
  generalize kN d = K at *
  generalize kD d = d' at *
  obtain ⟨xs, at', rst, rng⟩ := d
  obtain ⟨t0, t1, t2, t3, _⟩ := HR.out.k.four
  dsimp only at *
  go_enter Tryd.func80, Tryd.ntmps80
  go_wp2_with fail
  refine (HNx.out _ _ _).mono ?_
  rintro e w1 ⟨rfl, hb1⟩
  have HB1 := hid hb1
  clear hb1 HNx t0 t1 t2 t3
  go_wp2_with fail
  go_loopw [4] (fun i wr => ∃ c : Nat, i = .int .i64 (c : Int) ∧ c ≤ K ∧ Hid (Below w.heap.size w wr)) (fun i _ => K - (intOf i).toNat)
  case atStart => exact ⟨0, rfl, Nat.zero_le _, HB1.out⟩
  case round =>
    clear HB1
    obtain ⟨c, rfl, hc, hB⟩ := hrel
    by_cases hlt : c < K
    · obtain ⟨r1, r2⟩ := (HCs.out c hc).1 hlt
      have hs1 := hid (HSl.out c wr (by omega))
      have hs2 := hid (HSz.out c)
      have hle := lwc_le c
      have hse := shr_le c
      have r1' : (c : Int) < 17 := by omega
      generalize lwc c = lk at *
      generalize shr c = sk at *
      have q1' : wrap64 ((lk : Int) + (sk : Int)) = (lk : Int) + (sk : Int) := wrap_of (by omega) (by omega)
      go_wp2_with fail
      refine hs1.out.mono ?_
      rintro e w2 ⟨rfl, hb2⟩
      have HB2 := hid (bthen hB.out hb2)
      clear hb2 hs1 hB
      go_wp2_with fail
      refine (hs2.out _).mono ?_
      rintro e w3 ⟨rfl, rfl⟩
      go_wp2
      go_roundw
      case rel => exact ⟨c + 1, by go_num, by omega, HB2.out⟩
      case measure => simp [intOf]; omega
    · have hst := (HCs.out c hc).2 hlt
      obtain rfl : c = K := by omega
      have hsz := hid (fun W => HSl.out c W q1)
      have HTc := hid HTk.out
      have hR2 := HR
      rcases hst with h17 | ⟨r1, r2⟩
      · have h17' : ¬ (c : Int) < 17 := by omega
        clear HCs HSz HSl h17
        generalize lwc c = lk at *
        generalize shr c = sk at *
        go_wp2_with fail
        refine (hsz.out _).mono ?_
        rintro e w2 ⟨rfl, hb2⟩
        have HB2 := hid (bthen hB.out hb2)
        clear hb2 hB
        go_wp2_with fail
        refine (HTc.out _ _ (HR.out.later HB2.out)).mono ?_
        rintro e w3 ⟨rfl, v', hR, hg⟩
        have HR3 := hid hR
        have HG3 := hid (grown_same (grown_of_below HB2.out (some g)) hg)
        clear hR hg HTc HTk
        go_wp2
        go_ret
        exact ⟨rfl, v', HR3.out, HG3.out⟩
      · have r1' : (c : Int) < 17 := by omega
        have r2' : ¬ (lwc c : Int) + (shr c : Int) ≤ nv := by omega
        have hle := lwc_le c
        have hse := shr_le c
        have hsq := hid (fun W => HSz.out c W)
        clear HCs HSz HSl
        generalize lwc c = lk at *
        generalize shr c = sk at *
        have q1' : wrap64 ((lk : Int) + (sk : Int)) = (lk : Int) + (sk : Int) := wrap_of (by omega) (by omega)
        go_wp2_with fail
        refine (hsz.out _).mono ?_
        rintro e w2 ⟨rfl, hb2⟩
        have HB2 := hid (bthen hB.out hb2)
        clear hb2 hB
        go_wp2_with fail
        refine (hsq.out _).mono ?_
        rintro e w3 ⟨rfl, rfl⟩
        go_wp2_with fail
        refine (hsz.out _).mono ?_
        rintro e w3 ⟨rfl, hb3⟩
        have HB3 := hid (bthen HB2.out hb3)
        clear hb3 HB2
        go_wp2_with fail
        refine (HTc.out _ _ (HR.out.later HB3.out)).mono ?_
        rintro e w4 ⟨rfl, v', hR, hg⟩
        have HR3 := hid hR
        have HG3 := hid (grown_same (grown_of_below HB3.out (some g)) hg)
        clear hR hg HTc HTk
        go_wp2
        go_ret
        exact ⟨rfl, v', HR3.out, HG3.out⟩
end Go.Proofs.YthecfboplfmdmaaDoor.RdJ
