/- The model unites two halves. Conditions: each half has 1, 2, 4 or 8 numbers, both as many, none of them beyond 34359738368. -/
import Derived.Test.YtbakmphopgkpmaaDoorHalS
namespace Go.Proofs.YtbakmphopgkpmaaDoor.UniS
open Go.ChangeShapes Go.WideShapes Go.ChangeAt Go.RowKit Go.Proofs.YtbakmphopgkpmaaDoor.Num Go.Proofs.YtbakmphopgkpmaaDoor.Sli Go.Proofs.YtbakmphopgkpmaaDoor.App Go.Proofs.YtbakmphopgkpmaaDoor.Div Go.Proofs.YtbakmphopgkpmaaDoor.TurM Go.Proofs.YtbakmphopgkpmaaDoor.HalM Go.Proofs.YtbakmphopgkpmaaDoor.IntL Go.Proofs.YtbakmphopgkpmaaDoor.IntA Go.Proofs.YtbakmphopgkpmaaDoor.TurS Go.Proofs.YtbakmphopgkpmaaDoor.MixS Go.Proofs.YtbakmphopgkpmaaDoor.HalS

/-- One list of m numbers in a block of its own. -/
structure UK (w : World) (m ge ce : Nat) (E : List Int) (W : World) : Prop where
  e : OwI w.heap.size W (.slice (some ⟨ge, 0, none⟩) m ce) E
  b : Below w.heap.size w W
theorem UK.drew {w : World} {m ge ce : Nat} {E : List Int} {W : World} (h : UK w m ge ce E W) : UK w m ge ce E W.drew := ⟨h.e, h.b.drew⟩
/-- And a list of n numbers besides. -/
structure UO (w : World) (m ge ce n go : Nat) (E O : List Int) (W : World) : Prop where
  ne : ge ≠ go
  e : OwI w.heap.size W (.slice (some ⟨ge, 0, none⟩) m ce) E
  o : OwI w.heap.size W (.slice (some ⟨go, 0, none⟩) n n) O
  b : Below w.heap.size w W
theorem UO.drew {w : World} {m ge ce n go : Nat} {E O : List Int} {W : World} (h : UO w m ge ce n go E O W) : UO w m ge ce n go E O W.drew := ⟨h.ne, h.e, h.o, h.b.drew⟩
theorem rep_mkL (n : Nat) : List.replicate n (0 : Int) = mkL n (fun _ => 0) := by
  apply ext_g (by rw [List.length_replicate, mkL_len])
  intro i hi
  rw [List.length_replicate] at hi
  rw [mkL_get _ hi]; simp [hi]
theorem unE_lo {n j : Nat} {s e : List Int} (h : j < n / 2) : unE n s e j = s.getD j 0 - e.getD j 0 / 2 + e.getD j 0 := if_pos h
theorem unE_hi {n j : Nat} {s e : List Int} (h : j < n / 2) : unE n s e (n - 1 - j) = s.getD j 0 - e.getD j 0 / 2 := by
  unfold unE; rw [if_neg (by omega), show n - 1 - (n - 1 - j) = j by omega]

set_option maxHeartbeats 4000000 in
theorem l6Unite_calls (vs vd : Value) (s d : List Int) (M : Int) (w : World) (hs : Sl .i64 w vs s) (hd : Sl .i64 w vd d) (hn : sz4 (2 * s.length)) (hl : d.length = s.length) (hS : lim M s) (hD : lim M d) (hM : M ≤ 34359738368) :
    Calls Tryd.prog 111 #[vs, vd] w fun e w' => ∃ g, e = .returned (.slice (some ⟨g, 0, none⟩) (2 * s.length : Nat) (2 * s.length : Nat)) ∧ OwI w.heap.size w' (.slice (some ⟨g, 0, none⟩) (2 * s.length) (2 * s.length)) (un s d) ∧ Below w.heap.size w w' := by
  obtain ⟨n2, n16⟩ := sz4_le hn
  have Hn := hid hn
  have HLs := hid hS
  have HLd := hid hD
  have HLe := hid (lim_unB hn hD)
  have HI := hid (ints_calls vd d w hd (by omega))
  have HZ := hid zeros_calls
  have HX := hid l5Part_calls
  have hne : s ≠ [] := by intro e; rw [e] at n2; simp at n2
  have Hun := hid (show un s d = mkL (2 * s.length) (unE (2 * s.length) s (unB (2 * s.length) d)) from rfl)
  have Hul : Hid ((unB (2 * s.length) d).length = s.length) := by show _ = _; unfold unB; rw [prL_len]; omega
  obtain ⟨a, cap, rfl, hc⟩ := hs
  obtain ⟨b, off, rfl, hbl, hcell⟩ := hc hne
  obtain ⟨a2, cap2, rfl, _⟩ := hd
  have HC := hid hcell
  have Hdl := hid hl
  clear hc hcell hne hn hS hD
  rw [hl] at HI
  generalize un s d = U at *
  generalize hln : s.length = m at *
  have Hln := hid hln
  clear hln
  rw [hl]
  clear hl
  generalize h2m : 2 * m = n at *
  have hmn : (m : Int) * 2 = (n : Int) := by omega
  have hm0 : ((n : Int)).tdiv 2 = (m : Int) := by rcases Hn.out with e | e | e | e <;> rw [e] at h2m ⊢ <;> (have : m = 1 ∨ m = 2 ∨ m = 4 ∨ m = 8 := by omega) <;> (rcases this with e' | e' | e' | e' <;> rw [e'] at h2m ⊢ <;> first | rfl | omega)
  have Hm2 : Hid (n / 2 = m) := by show _ = _; omega
  have H2m := hid h2m
  clear h2m
  have hm8 : (m : Int) ≤ 8 ∧ 1 ≤ (m : Int) := by have := H2m.out; omega
  go_enter Tryd.func111, Tryd.ntmps111
  go_wp2_with fail
  refine HI.out.mono ?_
  rintro e w1 ⟨ge, ce, rfl, hoe, hb1⟩
  have HK1 : Hid (UK w m ge ce d w1) := ⟨hoe, hb1⟩
  clear hoe hb1 HI
  go_upto_if 20 with fail
  go_cut [] from 7 to 56 (fun wc => Hid (UK w m ge ce (unB n d) wc))
  case first =>
    by_cases h2 : n = 2
    · have HE : Hid (unB n d = d) := prL_two _ (by omega) (by rw [Hm2.out, Hdl.out])
      have h2I : (n : Int) = 2 := by omega
      clear HLe Hun Hul
      subst h2
      go_wp2_with fail
      go_meet
      case rel => (show UK _ _ _ _ _ _); rw [HE.out]; exact HK1.out
    · have h2I : (2 : Int) < (n : Int) := by omega
      have hr0 : ((n : Int)).tdiv 4 = ((n / 4 : Nat) : Int) := by rcases Hn.out with e | e | e | e <;> rw [e] <;> rfl
      have hr1 : m = 2 * (n / 4) := by have := Hm2.out; rcases Hn.out with e | e | e | e <;> omega
      have HRow := hid (fun i (hi : i < n / 4) => row_small Hn.out (by omega) hi)
      have HP := hid (fun i (hi : i < n / 4) => And.intro (prE_lo (F := bkF n) (by omega) hi d) (prE_hi (F := bkF n) Hn.out (by omega) hi d))
      rw [Hm2.out] at HP
      have HEnd : Hid (pS m (n / 4) (prE (bkF n) n d) (fun i => d.getD i 0) = unB n d) := by
        have := prL_state (F := bkF n) Hn.out (by omega) d
        rw [Hm2.out] at this
        exact this
      have HZ0 : Hid (UK w m ge ce (pS m 0 (prE (bkF n) n d) (fun i => d.getD i 0)) w1) := by
        rw [pS_zero, ← Hdl.out, mkL_self, Hdl.out]; exact HK1
      clear HK1 HLe Hun Hul
      generalize prE (bkF n) n d = vv at *
      generalize hoo : (fun i => d.getD i 0) = oo at *
      have HO : Hid (∀ i, oo i = d.getD i 0) := fun i => by rw [← hoo]
      clear hoo
      generalize n / 4 = r at *
      have hdt : decide ((2 : Int) < (n : Int)) = true := decide_eq_true h2I
      go_wp2_with fail
      rw [hdt]
      clear hdt
      go_loopw [7] (fun i wq => ∃ j : Nat, i = .int .i64 (j : Int) ∧ j ≤ r ∧ Hid (UK w m ge ce (pS m j vv oo) wq)) (fun i _ => r - (intOf i).toNat)
      case atStart => exact ⟨0, rfl, Nat.zero_le _, HZ0.out⟩
      case round =>
        obtain ⟨j, rfl, hj, hK⟩ := hrel
        clear HZ0
        by_cases hlt : j < r
        · obtain ⟨q, hq⟩ : ∃ q : Nat, m - 1 - j = q := ⟨_, rfl⟩
          have hqI : (m : Int) - 1 - (j : Int) = (q : Int) := by omega
          have hne : j ≠ q := by omega
          have hlen : m = (pS m j vv oo).length := (pS_len _ _ _ _).symm
          obtain ⟨c1, f1⟩ := hK.out.e.cellAt hlen j (by rw [pS_len]; omega)
          obtain ⟨c2, f2⟩ := hK.out.e.cellAt hlen q (by rw [pS_len]; omega)
          rw [pS_lo vv oo (by omega), HO.out j] at c1
          rw [← hq, pS_hi vv oo (by omega), HO.out (m - 1 - j), hq] at c2
          obtain ⟨p1, p2⟩ := HP.out j hlt
          rw [hq] at p1 p2
          have hr := HRow.out j hlt
          have hx := HLd.out j
          have hy := HLd.out q
          have HTj := hid (fun W => l5Back_calls (n : Int) (j : Int) (d.getD j 0) (d.getD q 0) W hr.1 (by omega) (by omega))
          have e1' : (bkF n j (d.getD j 0) (d.getD q 0)).1 = bkA (pV (n : Int) (j : Int)) (uV (n : Int) (j : Int)) (d.getD j 0) (d.getD q 0) := rfl
          have e2' : (bkF n j (d.getD j 0) (d.getD q 0)).2 = bkB (pV (n : Int) (j : Int)) (uV (n : Int) (j : Int)) (d.getD j 0) (d.getD q 0) := rfl
          rw [e1'] at p1
          rw [e2'] at p2
          rw [← p1, ← p2] at HTj
          have hstep := pS_step (m := m) (k := j) vv oo
          rw [hq] at hstep
          have HStep := hid hstep
          have Hlen := hid hlen
          have e1 : IntKind.i64.wrap ((m : Int)) = (m : Int) := wrapk_of (by omega) (by omega)
          have e2 : IntKind.i64.wrap ((m : Int) - 1) = (m : Int) - 1 := wrapk_of (by omega) (by omega)
          have e3 : IntKind.i64.wrap (q : Int) = (q : Int) := wrapk_of (by omega) (by omega)
          have hk8 : (r : Int) ≤ 4 := by omega
          have hjr : (j : Int) < (r : Int) := by omega
          have hjk : (j : Int) < (m : Int) := by omega
          have hqk : (q : Int) < (m : Int) := by omega
          clear p1 p2 e1' e2' hr hx hy hstep hlen f1 f2 hq HP HRow hr1
          generalize d.getD j 0 = x at *
          generalize d.getD q 0 = y at *
          have hA : UK w m ge ce (pS m j vv oo) wr.drew ∧ wr.drew.cell? ⟨ge, j, none⟩ = some (.int .i64 x) ∧ wr.drew.cell? ⟨ge, q, none⟩ = some (.int .i64 y) := ⟨hK.out.drew, c1, c2⟩
          go_wp2_with fail
          refine wp_region_noPanic ?_
          refine wp_region_held_drew (S := fun W => UK w m ge ce (pS m j vv oo) W ∧ W.cell? ⟨ge, j, none⟩ = some (.int .i64 x) ∧ W.cell? ⟨ge, q, none⟩ = some (.int .i64 y)) (by kernel_rfl) ?_ (fun hHeld => ?_)
          · assumption
          (refine wpAnyH_take (i := 0) (v := ?_) rfl (by kernel_rfl) (by kernel_rfl) (by kernel_rfl) (fun _ _ _ h => h) (Or.inl ⟨by rfl, ?_⟩) hHeld ?_; rotate_left; (intro w hSw; (obtain ⟨_, s1, s2⟩ := hSw); (go_simp <;> with_reducible rfl)); simp only [List.getElem_toArray, List.getElem_cons_zero, Act.put, List.setIfInBounds_toArray, List.set_cons_zero, List.set_cons_succ])
          (refine wpAnyH_take (i := 1) (v := ?_) rfl (by kernel_rfl) (by kernel_rfl) (by kernel_rfl) (fun _ _ _ h => h) (Or.inl ⟨by rfl, ?_⟩) hHeld ?_; rotate_left; (intro w hSw; (obtain ⟨_, s1, s2⟩ := hSw); (go_simp <;> with_reducible rfl)); simp only [List.getElem_toArray, List.getElem_cons_zero, List.getElem_cons_succ, Act.put, List.setIfInBounds_toArray, List.set_cons_zero, List.set_cons_succ])
          (refine wpAnyH_take (i := 2) (v := ?_) rfl (by kernel_rfl) (by kernel_rfl) (by kernel_rfl) (fun _ _ _ h => h) (Or.inl ⟨by rfl, ?_⟩) hHeld ?_; rotate_left; (intro w hSw; (obtain ⟨_, s1, s2⟩ := hSw); (go_simp <;> with_reducible rfl)); simp only [List.getElem_toArray, List.getElem_cons_zero, List.getElem_cons_succ, Act.put, List.setIfInBounds_toArray, List.set_cons_zero, List.set_cons_succ])
          (refine wpAnyH_take (i := 3) (v := ?_) rfl (by kernel_rfl) (by kernel_rfl) (by kernel_rfl) (fun _ _ _ h => h) (Or.inl ⟨by rfl, ?_⟩) hHeld ?_; rotate_left; (intro w hSw; (obtain ⟨_, s1, s2⟩ := hSw); (go_simp <;> with_reducible rfl)); simp only [List.getElem_toArray, List.getElem_cons_zero, List.getElem_cons_succ, Act.put, List.setIfInBounds_toArray, List.set_cons_zero, List.set_cons_succ])
          (refine wpAnyH_take (i := 4) (v := ?_) rfl (by kernel_rfl) (by kernel_rfl) (by kernel_rfl) (fun _ _ _ h => h) (Or.inl ⟨by rfl, ?_⟩) hHeld ?_; rotate_left; (intro w hSw; (obtain ⟨_, s1, s2⟩ := hSw); (go_simp <;> with_reducible rfl)); simp only [List.getElem_toArray, List.getElem_cons_zero, List.getElem_cons_succ, Act.put, List.setIfInBounds_toArray, List.set_cons_zero, List.set_cons_succ])
          (refine wpAnyH_take (i := 5) (v := ?_) rfl (by kernel_rfl) (by kernel_rfl) (by kernel_rfl) (fun _ _ _ h => h) (Or.inl ⟨by rfl, ?_⟩) hHeld ?_; rotate_left; (intro w hSw; (obtain ⟨_, s1, s2⟩ := hSw); (go_simp <;> with_reducible rfl)); simp only [List.getElem_toArray, List.getElem_cons_zero, List.getElem_cons_succ, Act.put, List.setIfInBounds_toArray, List.set_cons_zero, List.set_cons_succ])
          (refine wpAnyH_take (i := 6) (v := ?_) rfl (by kernel_rfl) (by kernel_rfl) (by kernel_rfl) (fun _ _ _ h => h) (Or.inl ⟨by rfl, ?_⟩) hHeld ?_; rotate_left; (intro w hSw; (obtain ⟨_, s1, s2⟩ := hSw); (go_simp <;> with_reducible rfl)); simp only [List.getElem_toArray, List.getElem_cons_zero, List.getElem_cons_succ, Act.put, List.setIfInBounds_toArray, List.set_cons_zero, List.set_cons_succ])
          (refine wpAnyH_take (i := 7) (v := ?_) rfl (by kernel_rfl) (by kernel_rfl) (by kernel_rfl) (fun _ _ _ h => h) (Or.inl ⟨by rfl, ?_⟩) hHeld ?_; rotate_left; (intro w hSw; (obtain ⟨_, s1, s2⟩ := hSw); (go_simp <;> with_reducible rfl)); simp only [List.getElem_toArray, List.getElem_cons_zero, List.getElem_cons_succ, Act.put, List.setIfInBounds_toArray, List.set_cons_zero, List.set_cons_succ])
          (refine wpAnyH_take (i := 8) (v := ?_) rfl (by kernel_rfl) (by kernel_rfl) (by kernel_rfl) (fun _ _ _ h => h) (Or.inl ⟨by rfl, ?_⟩) hHeld ?_; rotate_left; (intro w hSw; (obtain ⟨_, s1, s2⟩ := hSw); (go_simp <;> with_reducible rfl)); simp only [List.getElem_toArray, List.getElem_cons_zero, List.getElem_cons_succ, Act.put, List.setIfInBounds_toArray, List.set_cons_zero, List.set_cons_succ])
          (refine wpAnyH_take (i := 9) (v := ?_) rfl (by kernel_rfl) (by kernel_rfl) (by kernel_rfl) (fun _ _ _ h => h) (Or.inl ⟨by rfl, ?_⟩) hHeld ?_; rotate_left; (intro w hSw; (obtain ⟨_, s1, s2⟩ := hSw); (go_simp <;> with_reducible rfl)); simp only [List.getElem_toArray, List.getElem_cons_zero, List.getElem_cons_succ, Act.put, List.setIfInBounds_toArray, List.set_cons_zero, List.set_cons_succ])
          (refine wpAnyH_take (i := 10) (v := ?_) rfl (by kernel_rfl) (by kernel_rfl) (by kernel_rfl) (fun _ _ _ h => h) (Or.inl ⟨by rfl, ?_⟩) hHeld ?_; rotate_left; (intro w hSw; (obtain ⟨_, s1, s2⟩ := hSw); (go_simp <;> with_reducible rfl)); simp only [List.getElem_toArray, List.getElem_cons_zero, List.getElem_cons_succ, Act.put, List.setIfInBounds_toArray, List.set_cons_zero, List.set_cons_succ])
          (refine wpAnyH_take (i := 11) (v := ?_) rfl (by kernel_rfl) (by kernel_rfl) (by kernel_rfl) (fun _ _ _ h => h) (Or.inl ⟨by rfl, ?_⟩) hHeld ?_; rotate_left; (intro w hSw; (obtain ⟨_, s1, s2⟩ := hSw); (go_simp <;> with_reducible rfl)); simp only [List.getElem_toArray, List.getElem_cons_zero, List.getElem_cons_succ, Act.put, List.setIfInBounds_toArray, List.set_cons_zero, List.set_cons_succ])
          (refine wpAnyH_take (i := 12) (v := ?_) rfl (by kernel_rfl) (by kernel_rfl) (by kernel_rfl) (fun _ _ _ h => h) (Or.inl ⟨by rfl, ?_⟩) hHeld ?_; rotate_left; (intro w hSw; (obtain ⟨_, s1, s2⟩ := hSw); (go_simp <;> with_reducible rfl)); simp only [List.getElem_toArray, List.getElem_cons_zero, List.getElem_cons_succ, Act.put, List.setIfInBounds_toArray, List.set_cons_zero, List.set_cons_succ])
          (refine wpAnyH_take (i := 13) (v := ?_) rfl (by kernel_rfl) (by kernel_rfl) (by kernel_rfl) (fun _ _ _ h => h) (Or.inl ⟨by rfl, ?_⟩) hHeld ?_; rotate_left; (intro w hSw; (obtain ⟨_, s1, s2⟩ := hSw); (go_simp <;> with_reducible rfl)); simp only [List.getElem_toArray, List.getElem_cons_zero, List.getElem_cons_succ, Act.put, List.setIfInBounds_toArray, List.set_cons_zero, List.set_cons_succ])
          (refine wpAnyH_ready (rs := [14]) (by kernel_rfl) (by simp) ?_; refine AllReadyH.cons rfl (fun K hK => ?_) AllReadyH.nil; go_simp; (refine (HTj.out _).mono ?_; rintro e w9 ⟨rfl, rfl⟩); refine hK.out _ _ ?_ (fun hHeld => ?_); (assumption); clear hK K; try dsimp only)
          (refine wpAnyH_take (i := 15) (v := ?_) rfl (by kernel_rfl) (by kernel_rfl) (by kernel_rfl) (fun _ _ _ h => h) (Or.inl ⟨by rfl, ?_⟩) hHeld ?_; rotate_left; (intro w hSw; (obtain ⟨_, s1, s2⟩ := hSw); (go_simp <;> with_reducible rfl)); simp only [List.getElem_toArray, List.getElem_cons_zero, List.getElem_cons_succ, Act.put, List.setIfInBounds_toArray, List.set_cons_zero, List.set_cons_succ])
          (refine wpAnyH_take (i := 16) (v := ?_) rfl (by kernel_rfl) (by kernel_rfl) (by kernel_rfl) (fun _ _ _ h => h) (Or.inl ⟨by rfl, ?_⟩) hHeld ?_; rotate_left; (intro w hSw; (obtain ⟨_, s1, s2⟩ := hSw); (go_simp <;> with_reducible rfl)); simp only [List.getElem_toArray, List.getElem_cons_zero, List.getElem_cons_succ, Act.put, List.setIfInBounds_toArray, List.set_cons_zero, List.set_cons_succ])
          (refine wpAnyH_take (i := 17) (v := ?_) rfl (by kernel_rfl) (by kernel_rfl) (by kernel_rfl) (fun _ _ _ h => h) (Or.inl ⟨by rfl, ?_⟩) hHeld ?_; rotate_left; (intro w hSw; (obtain ⟨_, s1, s2⟩ := hSw); (go_simp <;> with_reducible rfl)); simp only [List.getElem_toArray, List.getElem_cons_zero, List.getElem_cons_succ, Act.put, List.setIfInBounds_toArray, List.set_cons_zero, List.set_cons_succ])
          (refine wpAnyH_take (i := 18) (v := ?_) rfl (by kernel_rfl) (by kernel_rfl) (by kernel_rfl) (fun _ _ _ h => h) (Or.inl ⟨by rfl, ?_⟩) hHeld ?_; rotate_left; (intro w hSw; (obtain ⟨_, s1, s2⟩ := hSw); (go_simp <;> with_reducible rfl)); simp only [List.getElem_toArray, List.getElem_cons_zero, List.getElem_cons_succ, Act.put, List.setIfInBounds_toArray, List.set_cons_zero, List.set_cons_succ])
          (refine wpAnyH_take (i := 19) (v := ?_) rfl (by kernel_rfl) (by kernel_rfl) (by kernel_rfl) (fun _ _ _ h => h) (Or.inl ⟨by rfl, ?_⟩) hHeld ?_; rotate_left; (intro w hSw; (obtain ⟨_, s1, s2⟩ := hSw); (go_simp <;> with_reducible rfl)); simp only [List.getElem_toArray, List.getElem_cons_zero, List.getElem_cons_succ, Act.put, List.setIfInBounds_toArray, List.set_cons_zero, List.set_cons_succ])
          refine wpAnyH_done (by kernel_rfl) ?_ _
          refine NoPanic.normal ?_
          have HB := hid hHeld.1
          clear hHeld hA hK c1 c2 HTj
          generalize wr.drew = W1 at *
          obtain ⟨c1, f1⟩ := HB.out.e.cellAt Hlen.out j (by rw [pS_len]; omega)
          obtain ⟨c2, f2⟩ := HB.out.e.cellAt Hlen.out q (by rw [pS_len]; omega)
          have HK2 : Hid (UK w m ge ce (pS m (j + 1) vv oo) ((W1.setCell ⟨ge, j, none⟩ (.int .i64 (vv j))).setCell ⟨ge, q, none⟩ (.int .i64 (vv q)))) := by
            have hst1 := Ow.set HB.out.e Hlen.out j (vv j)
            have hst2 := Ow.set hst1.1 (by rw [List.length_set]; exact Hlen.out) q (vv q)
            have hd2 := hst2.1
            rw [HStep.out] at hd2
            have hbd := blk_of HB.out.e
            exact ⟨hd2, (HB.out.b.setCell (p := ⟨ge, j, none⟩) hbd.1 _).setCell (p := ⟨ge, q, none⟩) hbd.1 _⟩
          clear HB HStep Hlen HO HEnd
          generalize (pS m j vv oo).getD j 0 = z1 at *
          generalize (pS m j vv oo).getD q 0 = z2 at *
          generalize vv j = x' at *
          generalize vv q = y' at *
          go_wp2
          go_roundw
          case rel => exact ⟨j + 1, by go_num, by omega, HK2.out⟩
          case measure => simp [intOf]; omega
        · obtain rfl : j = r := by omega
          rw [HEnd.out] at hK
          go_wp2_with fail
          go_meet
          case rel => exact hK
  case rest =>
    have hK : Hid (UK w m ge ce (unB n d) wc) := hcut
    clear hcut HK1 HLd
    generalize unB n d = E at *
    have HZn := hid (fun W => HZ.out n W (by omega))
    clear HZ
    go_wp2_with fail
    refine (HZn.out _).mono ?_
    rintro e w3 ⟨rfl, ho3, hb3⟩
    have HUn := hid (Hun.out.trans (pS_end (k := m) (unE n s E) (fun _ => 0) (by have := H2m.out; omega)).symm)
    have hK3 : Hid (UO w m ge ce n wc.heap.size E (pS n 0 (unE n s E) (fun _ => 0)) w3) := by
      have hbe := blk_of hK.out.e
      rw [pS_zero, ← rep_mkL]
      exact ⟨by omega, hK.out.e.later hb3, ho3.mono hK.out.b.size, bthen hK.out.b hb3⟩
    clear ho3 hb3 hK HZn Hun
    have HV := hid (fun j (hj : j < m) => And.intro (unE_lo (n := n) (s := s) (e := E) (by rw [Hm2.out]; exact hj)) (unE_hi (n := n) (s := s) (e := E) (by rw [Hm2.out]; exact hj)))
    generalize unE n s E = vv at *
    go_wp2_with fail
    generalize wc.heap.size = gz at *
    go_loopw [11] (fun i wq => ∃ j : Nat, i = .int .i64 (j : Int) ∧ j ≤ m ∧ Hid (UO w m ge ce n gz E (pS n j vv (fun _ => 0)) wq)) (fun i _ => m - (intOf i).toNat)
    case atStart => exact ⟨0, rfl, Nat.zero_le _, hK3.out⟩
    case round =>
      obtain ⟨j, rfl, hj, hK⟩ := hrel
      clear hK3
      by_cases hlt : j < m
      · obtain ⟨q, hq⟩ : ∃ q : Nat, n - 1 - j = q := ⟨_, rfl⟩
        have h2m := H2m.out
        have hqI : (n : Int) - 1 - (j : Int) = (q : Int) := by omega
        have hne : j ≠ q := by omega
        have hlen : n = (pS n j vv (fun _ => 0)).length := (pS_len _ _ _ _).symm
        have Hlen := hid hlen
        have c1 := (hK.out.b.cell (p := ⟨b, off + j, none⟩) hbl).trans (HC.out j (by omega))
        obtain ⟨c2, _⟩ := hK.out.e.cellAt Hul.out.symm j (by rw [Hul.out]; exact hlt)
        obtain ⟨p1, p2⟩ := HV.out j hlt
        rw [hq] at p2
        have hx := HLs.out j
        have hy := HLe.out j
        have HTj := hid (fun W => HX.out (s.getD j 0) (E.getD j 0) W (by omega) (by omega))
        rw [← p1, ← p2] at HTj
        have hstep := pS_step (m := n) (k := j) vv (fun _ => 0)
        rw [hq] at hstep
        have HStep := hid hstep
        have hjk : (j : Int) < (m : Int) := by omega
        have hjn : (j : Int) < (n : Int) := by omega
        have hqk : (q : Int) < (n : Int) := by omega
        have hjn' : j < n := by omega
        have hqn' : q < n := by omega
        clear p1 p2 hx hy hstep hlen hq h2m
        generalize s.getD j 0 = x at *
        generalize E.getD j 0 = y at *
        have hA : UO w m ge ce n gz E (pS n j vv (fun _ => 0)) wr.drew ∧ wr.drew.cell? ⟨b, off + j, none⟩ = some (.int .i64 x) ∧ wr.drew.cell? ⟨ge, j, none⟩ = some (.int .i64 y) := ⟨hK.out.drew, c1, c2⟩
        go_wp2_with fail
        refine wp_region_noPanic ?_
        refine wp_region_held_drew (S := fun W => UO w m ge ce n gz E (pS n j vv (fun _ => 0)) W ∧ W.cell? ⟨b, off + j, none⟩ = some (.int .i64 x) ∧ W.cell? ⟨ge, j, none⟩ = some (.int .i64 y)) (by kernel_rfl) ?_ (fun hHeld => ?_)
        · assumption
        (refine wpAnyH_take (i := 0) (v := ?_) rfl (by kernel_rfl) (by kernel_rfl) (by kernel_rfl) (fun _ _ _ h => h) (Or.inl ⟨by rfl, ?_⟩) hHeld ?_; rotate_left; (intro w hSw; (obtain ⟨_, s1, s2⟩ := hSw); (go_simp <;> with_reducible rfl)); simp only [List.getElem_toArray, List.getElem_cons_zero, Act.put, List.setIfInBounds_toArray, List.set_cons_zero, List.set_cons_succ])
        (refine wpAnyH_take (i := 1) (v := ?_) rfl (by kernel_rfl) (by kernel_rfl) (by kernel_rfl) (fun _ _ _ h => h) (Or.inl ⟨by rfl, ?_⟩) hHeld ?_; rotate_left; (intro w hSw; (obtain ⟨_, s1, s2⟩ := hSw); (go_simp <;> with_reducible rfl)); simp only [List.getElem_toArray, List.getElem_cons_zero, List.getElem_cons_succ, Act.put, List.setIfInBounds_toArray, List.set_cons_zero, List.set_cons_succ])
        (refine wpAnyH_take (i := 2) (v := ?_) rfl (by kernel_rfl) (by kernel_rfl) (by kernel_rfl) (fun _ _ _ h => h) (Or.inl ⟨by rfl, ?_⟩) hHeld ?_; rotate_left; (intro w hSw; (obtain ⟨_, s1, s2⟩ := hSw); (go_simp <;> with_reducible rfl)); simp only [List.getElem_toArray, List.getElem_cons_zero, List.getElem_cons_succ, Act.put, List.setIfInBounds_toArray, List.set_cons_zero, List.set_cons_succ])
        (refine wpAnyH_take (i := 3) (v := ?_) rfl (by kernel_rfl) (by kernel_rfl) (by kernel_rfl) (fun _ _ _ h => h) (Or.inl ⟨by rfl, ?_⟩) hHeld ?_; rotate_left; (intro w hSw; (obtain ⟨_, s1, s2⟩ := hSw); (go_simp <;> with_reducible rfl)); simp only [List.getElem_toArray, List.getElem_cons_zero, List.getElem_cons_succ, Act.put, List.setIfInBounds_toArray, List.set_cons_zero, List.set_cons_succ])
        (refine wpAnyH_take (i := 4) (v := ?_) rfl (by kernel_rfl) (by kernel_rfl) (by kernel_rfl) (fun _ _ _ h => h) (Or.inl ⟨by rfl, ?_⟩) hHeld ?_; rotate_left; (intro w hSw; (obtain ⟨_, s1, s2⟩ := hSw); (go_simp <;> with_reducible rfl)); simp only [List.getElem_toArray, List.getElem_cons_zero, List.getElem_cons_succ, Act.put, List.setIfInBounds_toArray, List.set_cons_zero, List.set_cons_succ])
        (refine wpAnyH_take (i := 5) (v := ?_) rfl (by kernel_rfl) (by kernel_rfl) (by kernel_rfl) (fun _ _ _ h => h) (Or.inl ⟨by rfl, ?_⟩) hHeld ?_; rotate_left; (intro w hSw; (obtain ⟨_, s1, s2⟩ := hSw); (go_simp <;> with_reducible rfl)); simp only [List.getElem_toArray, List.getElem_cons_zero, List.getElem_cons_succ, Act.put, List.setIfInBounds_toArray, List.set_cons_zero, List.set_cons_succ])
        (refine wpAnyH_take (i := 6) (v := ?_) rfl (by kernel_rfl) (by kernel_rfl) (by kernel_rfl) (fun _ _ _ h => h) (Or.inl ⟨by rfl, ?_⟩) hHeld ?_; rotate_left; (intro w hSw; (obtain ⟨_, s1, s2⟩ := hSw); (go_simp <;> with_reducible rfl)); simp only [List.getElem_toArray, List.getElem_cons_zero, List.getElem_cons_succ, Act.put, List.setIfInBounds_toArray, List.set_cons_zero, List.set_cons_succ])
        (refine wpAnyH_take (i := 7) (v := ?_) rfl (by kernel_rfl) (by kernel_rfl) (by kernel_rfl) (fun _ _ _ h => h) (Or.inl ⟨by rfl, ?_⟩) hHeld ?_; rotate_left; (intro w hSw; (obtain ⟨_, s1, s2⟩ := hSw); (go_simp <;> with_reducible rfl)); simp only [List.getElem_toArray, List.getElem_cons_zero, List.getElem_cons_succ, Act.put, List.setIfInBounds_toArray, List.set_cons_zero, List.set_cons_succ])
        (refine wpAnyH_ready (rs := [8]) (by kernel_rfl) (by simp) ?_; refine AllReadyH.cons rfl (fun K hK => ?_) AllReadyH.nil; go_simp; (refine (HTj.out _).mono ?_; rintro e w9 ⟨rfl, rfl⟩); refine hK.out _ _ ?_ (fun hHeld => ?_); (assumption); clear hK K; try dsimp only)
        (refine wpAnyH_take (i := 9) (v := ?_) rfl (by kernel_rfl) (by kernel_rfl) (by kernel_rfl) (fun _ _ _ h => h) (Or.inl ⟨by rfl, ?_⟩) hHeld ?_; rotate_left; (intro w hSw; (obtain ⟨_, s1, s2⟩ := hSw); (go_simp <;> with_reducible rfl)); simp only [List.getElem_toArray, List.getElem_cons_zero, List.getElem_cons_succ, Act.put, List.setIfInBounds_toArray, List.set_cons_zero, List.set_cons_succ])
        (refine wpAnyH_take (i := 10) (v := ?_) rfl (by kernel_rfl) (by kernel_rfl) (by kernel_rfl) (fun _ _ _ h => h) (Or.inl ⟨by rfl, ?_⟩) hHeld ?_; rotate_left; (intro w hSw; (obtain ⟨_, s1, s2⟩ := hSw); (go_simp <;> with_reducible rfl)); simp only [List.getElem_toArray, List.getElem_cons_zero, List.getElem_cons_succ, Act.put, List.setIfInBounds_toArray, List.set_cons_zero, List.set_cons_succ])
        (refine wpAnyH_take (i := 11) (v := ?_) rfl (by kernel_rfl) (by kernel_rfl) (by kernel_rfl) (fun _ _ _ h => h) (Or.inl ⟨by rfl, ?_⟩) hHeld ?_; rotate_left; (intro w hSw; (obtain ⟨_, s1, s2⟩ := hSw); (go_simp <;> with_reducible rfl)); simp only [List.getElem_toArray, List.getElem_cons_zero, List.getElem_cons_succ, Act.put, List.setIfInBounds_toArray, List.set_cons_zero, List.set_cons_succ])
        (refine wpAnyH_take (i := 12) (v := ?_) rfl (by kernel_rfl) (by kernel_rfl) (by kernel_rfl) (fun _ _ _ h => h) (Or.inl ⟨by rfl, ?_⟩) hHeld ?_; rotate_left; (intro w hSw; (obtain ⟨_, s1, s2⟩ := hSw); (go_simp <;> with_reducible rfl)); simp only [List.getElem_toArray, List.getElem_cons_zero, List.getElem_cons_succ, Act.put, List.setIfInBounds_toArray, List.set_cons_zero, List.set_cons_succ])
        (refine wpAnyH_take (i := 13) (v := ?_) rfl (by kernel_rfl) (by kernel_rfl) (by kernel_rfl) (fun _ _ _ h => h) (Or.inl ⟨by rfl, ?_⟩) hHeld ?_; rotate_left; (intro w hSw; (obtain ⟨_, s1, s2⟩ := hSw); (go_simp <;> with_reducible rfl)); simp only [List.getElem_toArray, List.getElem_cons_zero, List.getElem_cons_succ, Act.put, List.setIfInBounds_toArray, List.set_cons_zero, List.set_cons_succ])
        refine wpAnyH_done (by kernel_rfl) ?_ _
        refine NoPanic.normal ?_
        have HB := hid hHeld.1
        clear hHeld hA hK c1 c2 HTj
        generalize wr.drew = W1 at *
        obtain ⟨c1, f1⟩ := HB.out.o.cellAt Hlen.out j (by rw [pS_len]; omega)
        obtain ⟨c2, f2⟩ := HB.out.o.cellAt Hlen.out q (by rw [pS_len]; omega)
        have HK2 : Hid (UO w m ge ce n gz E (pS n (j + 1) vv (fun _ => 0)) ((W1.setCell ⟨gz, j, none⟩ (.int .i64 (vv j))).setCell ⟨gz, q, none⟩ (.int .i64 (vv q)))) := by
          have hst1 := Ow.set HB.out.o Hlen.out j (vv j)
          have hst2 := Ow.set hst1.1 (by rw [List.length_set]; exact Hlen.out) q (vv q)
          have hd2 := hst2.1
          rw [HStep.out] at hd2
          have hbd := blk_of HB.out.o
          have hne' := HB.out.ne
          exact ⟨hne', Ow.keptNe (Ow.keptNe HB.out.e hst1.2 (fun i e => by simp [Value.ownBlock] at e ⊢; omega)) hst2.2 (fun i e => by simp [Value.ownBlock] at e ⊢; omega), hd2, (HB.out.b.setCell (p := ⟨gz, j, none⟩) hbd.1 _).setCell (p := ⟨gz, q, none⟩) hbd.1 _⟩
        clear HB HStep Hlen HV HUn
        generalize (pS n j vv (fun _ => 0)).getD j 0 = z1 at *
        generalize (pS n j vv (fun _ => 0)).getD q 0 = z2 at *
        generalize vv j = x' at *
        generalize vv q = y' at *
        go_wp2
        go_roundw
        case rel => exact ⟨j + 1, by go_num, by omega, HK2.out⟩
        case measure => simp [intOf]; omega
      · obtain rfl : j = m := by omega
        go_wp2
        go_ret
        exact ⟨gz, rfl, by rw [HUn.out]; exact hK.out.o, hK.out.b⟩
end Go.Proofs.YtbakmphopgkpmaaDoor.UniS
