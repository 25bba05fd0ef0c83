/- The program weaves two lists into one, parts one again, spreads a list into coefficients and gathers it. Conditions: the table of turns, 1, 2, 4, 8 or 16 numbers, not too great. -/
import Derived.Test.YtgnbailcibhenaaDoorUnI
import Derived.Test.YtgnbailcibhenaaDoorGg
namespace Go.Proofs.YtgnbailcibhenaaDoor.SgI
open Go.ChangeShapes Go.WideShapes Go.ChangeAt Go.RowKit Go.Proofs.YtgnbailcibhenaaDoor.Num Go.Proofs.YtgnbailcibhenaaDoor.Sli Go.Proofs.YtgnbailcibhenaaDoor.App Go.Proofs.YtgnbailcibhenaaDoor.Samp Go.Proofs.YtgnbailcibhenaaDoor.Blk Go.Proofs.YtgnbailcibhenaaDoor.TurM Go.Proofs.YtgnbailcibhenaaDoor.HalM Go.Proofs.YtgnbailcibhenaaDoor.IntL Go.Proofs.YtgnbailcibhenaaDoor.IntA Go.Proofs.YtgnbailcibhenaaDoor.TurI Go.Proofs.YtgnbailcibhenaaDoor.WayM Go.Proofs.YtgnbailcibhenaaDoor.WayJ Go.Proofs.YtgnbailcibhenaaDoor.BkI Go.Proofs.YtgnbailcibhenaaDoor.HvI Go.Proofs.YtgnbailcibhenaaDoor.UnI Go.Proofs.YtgnbailcibhenaaDoor.SprS Go.Proofs.YtgnbailcibhenaaDoor.GatS

theorem make_0 (m : Nat) (hm : m ≤ 1048576) (W : World) : (Instr.makeSlice 27 (.int .i64 0) (.int .i64 (m : Int))).run Tryd.prog W = .ok (.slice (some ⟨W.heap.size, 0, none⟩) 0 m) (W.alloc (.cells (cs (List.replicate m 0)) 2)) := by
  obtain ⟨i0, hi, hz0, hz1, hz2⟩ := info_parts infoJ
  have := run_make (P := Tryd.prog) W 27 2 i0 (.int .i64 0) Tryd.underlying27 hi hz0 .i64 .i64 0 (m : Int) (by omega) (by omega) (by rw [hz2]; omega) (by omega)
  rw [hz1, Nat.mul_one, Int.toNat_natCast, show (Value.int .i64 0).cells = #[Value.int .i64 0] from rfl, made_cs] at this
  exact this
theorem ow_made (w : World) (m : Nat) (hm : m ≤ 1048576) : OwI w.heap.size (w.alloc (.cells (cs (List.replicate m 0)) 2)) (.slice (some ⟨w.heap.size, 0, none⟩) 0 m) [] :=
  ⟨rfl, Or.inr ⟨w.heap.size, m, cs (List.replicate m 0), rfl, Nat.le_refl _, heap_alloc_new w _, Nat.zero_le _, by unfold maxLen; omega, by simp [cs], by simp⟩⟩
/-- One list that grows. -/
structure WK (w : World) (n go co : Nat) (O : List Int) (W : World) : Prop where
  o : OwI w.heap.size W (.slice (some ⟨go, 0, none⟩) n co) O
  l : Below w.heap.size w W
attribute [-go_sem] Builtin.append_
set_option maxHeartbeats 1000000 in
theorem weave_calls (va vb : Value) (A B : List Int) (m : Nat) (w : World) (ha : Sl .i64 w va A) (hb : Sl .i64 w vb B) (hA : A.length = m) (hB : B.length = m) (hm : 1 ≤ m ∧ m ≤ 8) :
    Calls Tryd.prog 89 #[va, vb] w fun e w' => ∃ g cap, e = .returned (.slice (some ⟨g, 0, none⟩) (2 * m : Nat) cap) ∧ OwI w.heap.size w' (.slice (some ⟨g, 0, none⟩) (2 * m) cap) (inter A B) ∧ Below w.heap.size w w' := by
  have HE : Hid (inter A B = mkL (2 * m) (inE A B)) := by show _ = _; unfold inter; rw [hA]
  have nA : A ≠ [] := by intro e; rw [e] at hA; simp at hA; omega
  have nB : B ≠ [] := by intro e; rw [e] at hB; simp at hB; omega
  obtain ⟨a1, cap1, rfl, hc1⟩ := ha
  obtain ⟨b1, off1, rfl, hl1, hcell1⟩ := hc1 nA
  obtain ⟨a2, cap2, rfl, hc2⟩ := hb
  obtain ⟨b2, off2, rfl, hl2, hcell2⟩ := hc2 nB
  rw [hA] at hcell1
  rw [hB] at hcell2
  have HC1 := hid hcell1
  have HC2 := hid hcell2
  rw [hA, hB]
  clear hc1 hc2 hcell1 hcell2 nA nB hA hB
  obtain ⟨N, hN⟩ : ∃ N : Nat, 2 * m = N := ⟨_, rfl⟩
  have hNI : (m : Int) + (m : Int) = (N : Int) := by omega
  have HN := hid hN
  have hmk := make_0 N (by omega)
  have h0 : Hid (WK w (2 * 0) w.heap.size N (mkL (2 * 0) (inE A B)) (w.alloc (.cells (cs (List.replicate N 0)) 2))) := ⟨ow_made w N (by omega), bmore (Below.refl _ _) _⟩
  generalize inter A B = R at *
  rw [hN]
  rw [hN] at HE
  clear hN
  go_enter Tryd.func89, Tryd.ntmps89
  go_wp2
  go_loopw [5, 15] (fun o i wq => ∃ j go co : Nat, i = .int .i64 (j : Int) ∧ o = .slice (some ⟨go, 0, none⟩) (2 * j : Nat) co ∧ j ≤ m ∧ Hid (WK w (2 * j) go co (mkL (2 * j) (inE A B)) wq)) (fun _ i _ => m - (intOf i).toNat)
  case atStart => exact ⟨0, _, _, rfl, rfl, Nat.zero_le _, h0⟩
  case round =>
    obtain ⟨j, go, co, rfl, rfl, hj, hK⟩ := hrel
    clear h0 hmk
    by_cases hlt : j < m
    · have c1 := (hK.out.l.cell (p := ⟨b1, off1 + j, none⟩) hl1).trans (HC1.out j hlt)
      have c2 := (hK.out.l.cell (p := ⟨b2, off2 + j, none⟩) hl2).trans (HC2.out j hlt)
      have hstep := hid (inter_step A B j)
      have hsw := hK.out.l.size
      have hlo : (mkL (2 * j) (inE A B)).length = 2 * j := mkL_len _ _
      generalize A.getD j 0 = x at *
      generalize B.getD j 0 = y at *
      have HOd : OwI w.heap.size wr.drew (.slice (some ⟨go, 0, none⟩) (2 * j) co) (mkL (2 * j) (inE A B)) := hK.out.o
      obtain ⟨gc, cc, w5, hrun, ho5, hg5, hat5⟩ := app_two (W := wr.drew) (x := x) (y := y) 27 HOd (show w.heap.size ≤ wr.heap.size from hsw) (by omega)
      rw [hlo] at hrun ho5
      replace hrun : (Builtin.append_ #[27, 27] 27 #[.slice (some ⟨go, 0, none⟩) (2 * j) co, .slice (some ⟨wr.heap.size, 0, none⟩) 2 2]).run Tryd.prog (wr.alloc (.cells #[.int .i64 x, .int .i64 y] 2)).drew = _ := hrun
      have HK5 : Hid (WK w (2 * (j + 1)) gc cc (mkL (2 * (j + 1)) (inE A B)) w5) := by
        have hL5 := (bmore (Below.drew hK.out.l) (.cells #[.int .i64 x, .int .i64 y] 2)).trans (below_of_grown hg5 (by simp; omega) (fun i e => (HOd.block i e).1))
        refine ⟨?_, hL5⟩
        rw [hstep.out, show 2 * (j + 1) = 2 * j + 2 by omega]
        exact ho5
      have a1 : (wr.alloc (.cells #[.int .i64 x, .int .i64 y] 2)).drew.cell? ⟨b1, off1 + j, none⟩ = some (.int .i64 x) := ((Below.refl wr.heap.size wr).alloc (Nat.le_refl _) _).cell (p := ⟨b1, off1 + j, none⟩) (Nat.lt_of_lt_of_le hl1 hsw) |>.trans c1
      have a2 : (wr.alloc (.cells #[.int .i64 x, .int .i64 y] 2)).drew.cell? ⟨b2, off2 + j, none⟩ = some (.int .i64 y) := ((Below.refl wr.heap.size wr).alloc (Nat.le_refl _) _).cell (p := ⟨b2, off2 + j, none⟩) (Nat.lt_of_lt_of_le hl2 hsw) |>.trans c2
      clear ho5 hg5 hat5 HOd hK hlo hstep HE HC1 HC2
      have hjm : (j : Int) < (m : Int) := by omega
      go_wp2_with fail
      refine wp_region_noPanic ?_
      refine wp_region_held_drew (S := fun W => True) (by kernel_rfl) (by trivial) (fun hHeld => ?_)
      (refine wpAnyH_take (i := 0) (v := ?_) rfl (by kernel_rfl) (by kernel_rfl) (by kernel_rfl) (fun _ _ _ h => h) (Or.inl ⟨by rfl, ?_⟩) hHeld ?_; rotate_left; (intro w hSw; skip; (go_simp <;> with_reducible rfl)); simp only [List.getElem_toArray, List.getElem_cons_zero, Act.put, List.setIfInBounds_toArray, List.set_cons_zero, List.set_cons_succ])
      (refine wpAnyH_take (i := 1) (v := ?_) rfl (by kernel_rfl) (by kernel_rfl) (by kernel_rfl) (fun _ _ _ h => h) (Or.inl ⟨by rfl, ?_⟩) hHeld ?_; rotate_left; (intro w hSw; skip; (go_simp <;> with_reducible rfl)); simp only [List.getElem_toArray, List.getElem_cons_zero, List.getElem_cons_succ, Act.put, List.setIfInBounds_toArray, List.set_cons_zero, List.set_cons_succ])
      (refine wpAnyH_take (i := 2) (v := ?_) rfl (by kernel_rfl) (by kernel_rfl) (by kernel_rfl) (fun _ _ _ h => h) (Or.inl ⟨by rfl, ?_⟩) hHeld ?_; rotate_left; (intro w hSw; skip; (go_simp <;> with_reducible rfl)); simp only [List.getElem_toArray, List.getElem_cons_zero, List.getElem_cons_succ, Act.put, List.setIfInBounds_toArray, List.set_cons_zero, List.set_cons_succ])
      (refine wpAnyH_take (i := 3) (v := ?_) rfl (by kernel_rfl) (by kernel_rfl) (by kernel_rfl) (fun _ _ _ h => h) (Or.inl ⟨by rfl, ?_⟩) hHeld ?_; rotate_left; (intro w hSw; skip; (go_simp <;> with_reducible rfl)); simp only [List.getElem_toArray, List.getElem_cons_zero, List.getElem_cons_succ, Act.put, List.setIfInBounds_toArray, List.set_cons_zero, List.set_cons_succ])
      (refine wpAnyH_take (i := 5) (v := ?_) rfl (by kernel_rfl) (by kernel_rfl) (by kernel_rfl) (fun _ _ _ h => h) (Or.inl ⟨by rfl, ?_⟩) hHeld ?_; rotate_left; (intro w hSw; skip; (go_simp <;> with_reducible rfl)); simp only [List.getElem_toArray, List.getElem_cons_zero, List.getElem_cons_succ, Act.put, List.setIfInBounds_toArray, List.set_cons_zero, List.set_cons_succ])
      (refine wpAnyH_take (i := 6) (v := ?_) rfl (by kernel_rfl) (by kernel_rfl) (by kernel_rfl) (fun _ _ _ h => h) (Or.inl ⟨by rfl, ?_⟩) hHeld ?_; rotate_left; (intro w hSw; skip; (go_simp <;> with_reducible rfl)); simp only [List.getElem_toArray, List.getElem_cons_zero, List.getElem_cons_succ, Act.put, List.setIfInBounds_toArray, List.set_cons_zero, List.set_cons_succ])
      (refine wpAnyH_take (i := 7) (v := ?_) rfl (by kernel_rfl) (by kernel_rfl) (by kernel_rfl) (fun _ _ _ h => h) (Or.inl ⟨by rfl, ?_⟩) hHeld ?_; rotate_left; (intro w hSw; skip; (go_simp <;> with_reducible rfl)); simp only [List.getElem_toArray, List.getElem_cons_zero, List.getElem_cons_succ, Act.put, List.setIfInBounds_toArray, List.set_cons_zero, List.set_cons_succ])
      refine wpAnyH_ready (rs := [4, 8]) (by kernel_rfl) (by simp) ?_
      refine (AllReadyH.cons rfl (fun K hK => ?_) (AllReadyH.cons rfl (fun K hK => ?_) AllReadyH.nil))
      · go_simp
        skip
        refine hK.out _ _ (by trivial) (fun hHeld => ?_)
        clear hK K
        try simp only [List.getElem_toArray, List.getElem_cons_zero, List.getElem_cons_succ, Act.put, List.setIfInBounds_toArray, List.set_cons_zero, List.set_cons_succ]
        refine wpAnyH_ready (rs := [8]) (by kernel_rfl) (by simp) ?_
        refine (AllReadyH.cons rfl (fun K hK => ?_) AllReadyH.nil)
        go_simp
        skip
        refine hK.out _ _ (by trivial) (fun hHeld => ?_)
        clear hK K
        try simp only [List.getElem_toArray, List.getElem_cons_zero, List.getElem_cons_succ, Act.put, List.setIfInBounds_toArray, List.set_cons_zero, List.set_cons_succ]
        refine wpAnyH_ready (rs := [9]) (by kernel_rfl) (by simp) ?_
        refine (AllReadyH.cons rfl (fun K hK => ?_) AllReadyH.nil)
        go_simp
        skip
        refine hK.out _ _ (by trivial) (fun hHeld => ?_)
        clear hK K
        try simp only [List.getElem_toArray, List.getElem_cons_zero, List.getElem_cons_succ, Act.put, List.setIfInBounds_toArray, List.set_cons_zero, List.set_cons_succ]
        refine wpAnyH_ready (rs := [10]) (by kernel_rfl) (by simp) ?_
        refine (AllReadyH.cons rfl (fun K hK => ?_) AllReadyH.nil)
        go_simp
        skip
        refine hK.out _ _ (by trivial) (fun hHeld => ?_)
        clear hK K
        try simp only [List.getElem_toArray, List.getElem_cons_zero, List.getElem_cons_succ, Act.put, List.setIfInBounds_toArray, List.set_cons_zero, List.set_cons_succ]
        (refine wpAnyH_take (i := 11) (v := ?_) rfl (by kernel_rfl) (by kernel_rfl) (by kernel_rfl) (fun _ _ _ h => h) (Or.inl ⟨by rfl, ?_⟩) hHeld ?_; rotate_left; (intro w hSw; skip; (go_simp <;> with_reducible rfl)); simp only [List.getElem_toArray, List.getElem_cons_zero, List.getElem_cons_succ, Act.put, List.setIfInBounds_toArray, List.set_cons_zero, List.set_cons_succ])
        refine wpAnyH_done (by kernel_rfl) ?_ _
        refine NoPanic.normal ?_
        go_wp2
        go_roundw
        case rel => exact ⟨j + 1, gc, cc, by go_num, rfl, by omega, HK5.out⟩
        case measure => simp [intOf]; omega
      · go_simp
        skip
        refine hK.out _ _ (by trivial) (fun hHeld => ?_)
        clear hK K
        try simp only [List.getElem_toArray, List.getElem_cons_zero, List.getElem_cons_succ, Act.put, List.setIfInBounds_toArray, List.set_cons_zero, List.set_cons_succ]
        refine wpAnyH_ready (rs := [4]) (by kernel_rfl) (by simp) ?_
        refine (AllReadyH.cons rfl (fun K hK => ?_) AllReadyH.nil)
        go_simp
        skip
        refine hK.out _ _ (by trivial) (fun hHeld => ?_)
        clear hK K
        try simp only [List.getElem_toArray, List.getElem_cons_zero, List.getElem_cons_succ, Act.put, List.setIfInBounds_toArray, List.set_cons_zero, List.set_cons_succ]
        refine wpAnyH_ready (rs := [9]) (by kernel_rfl) (by simp) ?_
        refine (AllReadyH.cons rfl (fun K hK => ?_) AllReadyH.nil)
        go_simp
        skip
        refine hK.out _ _ (by trivial) (fun hHeld => ?_)
        clear hK K
        try simp only [List.getElem_toArray, List.getElem_cons_zero, List.getElem_cons_succ, Act.put, List.setIfInBounds_toArray, List.set_cons_zero, List.set_cons_succ]
        refine wpAnyH_ready (rs := [10]) (by kernel_rfl) (by simp) ?_
        refine (AllReadyH.cons rfl (fun K hK => ?_) AllReadyH.nil)
        go_simp
        skip
        refine hK.out _ _ (by trivial) (fun hHeld => ?_)
        clear hK K
        try simp only [List.getElem_toArray, List.getElem_cons_zero, List.getElem_cons_succ, Act.put, List.setIfInBounds_toArray, List.set_cons_zero, List.set_cons_succ]
        (refine wpAnyH_take (i := 11) (v := ?_) rfl (by kernel_rfl) (by kernel_rfl) (by kernel_rfl) (fun _ _ _ h => h) (Or.inl ⟨by rfl, ?_⟩) hHeld ?_; rotate_left; (intro w hSw; skip; (go_simp <;> with_reducible rfl)); simp only [List.getElem_toArray, List.getElem_cons_zero, List.getElem_cons_succ, Act.put, List.setIfInBounds_toArray, List.set_cons_zero, List.set_cons_succ])
        refine wpAnyH_done (by kernel_rfl) ?_ _
        refine NoPanic.normal ?_
        go_wp2
        go_roundw
        case rel => exact ⟨j + 1, gc, cc, by go_num, rfl, by omega, HK5.out⟩
        case measure => simp [intOf]; omega
    · obtain rfl : j = m := by omega
      have HO := hid hK.out
      rw [HN.out, ← HE.out] at HO
      clear hK
      go_wp2
      go_ret
      exact ⟨go, co, (by rw [← HN.out]; rfl), HO.out.o, HO.out.l⟩
/-- Two lists that grow and share no block. -/
structure UK (w : World) (u t : Value) (E O : List Int) (W : World) : Prop where
  ne : ∀ g, u.ownBlock = some g → t.ownBlock ≠ some g
  s : OwI w.heap.size W u E
  d : OwI w.heap.size W t O
  b : Below w.heap.size w W
set_option maxHeartbeats 1000000 in
theorem unweave_calls (v : Value) (c : List Int) (m : Nat) (w : World) (h : Sl .i64 w v c) (hl : c.length = 2 * m) (hm : 1 ≤ m ∧ m ≤ 8) :
    Calls Tryd.prog 120 #[v] w fun e w' => ∃ u t, e = .returned (.tuple #[u, t]) ∧ UK w u t (ev c) (od c) w' := by
  have EE : Hid (ev c = mkL m (evE c)) := by show mkL _ _ = _; rw [show c.length / 2 = m by omega]; rfl
  have EO : Hid (od c = mkL m (odE c)) := by show mkL _ _ = _; rw [show c.length / 2 = m by omega]; rfl
  have HEv := hid (fun i => show evE c i = c.getD (2 * i) 0 from rfl)
  have HOd := hid (fun i => show odE c i = c.getD (2 * i + 1) 0 from rfl)
  have hne : c ≠ [] := by intro e; rw [e] at hl; simp at hl; omega
  obtain ⟨a, cap, rfl, hc⟩ := h
  obtain ⟨b, off, rfl, hbl, hcell⟩ := hc hne
  rw [hl] at hcell
  have HC := hid hcell
  rw [hl]
  clear hc hcell hne hl
  obtain ⟨N, hN⟩ : ∃ N : Nat, 2 * m = N := ⟨_, rfl⟩
  rw [hN]
  rw [hN] at HC
  have HN := hid hN
  have hN16 : N ≤ 16 := by omega
  clear hN
  generalize ev c = RE at *
  generalize od c = RO at *
  generalize evE c = fe at *
  generalize odE c = fo at *
  have h0 : Hid (UK w (.slice none 0 0) (.slice none 0 0) (mkL 0 fe) (mkL 0 fo) w) := ⟨fun _ e => (by cases e), ⟨rfl, .inl ⟨rfl, rfl⟩⟩, ⟨rfl, .inl ⟨rfl, rfl⟩⟩, Below.refl _ _⟩
  go_enter Tryd.func120, Tryd.ntmps120
  go_wp2
  go_loopw [2, 3, 4] (fun s d i wr => ∃ (k n : Nat) (u t : Value), i = .int .i64 (n : Int) ∧ s = u ∧ d = t ∧ Hid (n = 2 * k) ∧ n ≤ N ∧ Hid (UK w u t (mkL k fe) (mkL k fo) wr)) (fun _ _ i _ => N - (intOf i).toNat)
  case atStart => exact ⟨0, 0, _, _, rfl, rfl, rfl, rfl, Nat.zero_le _, h0⟩
  case round =>
    obtain ⟨k, n, u, t, rfl, rfl, rfl, Hk, hn, hK⟩ := hrel
    clear h0
    by_cases hlt : n < N
    · have hn1 : n + 1 < N := by have := Hk.out; have := HN.out; omega
      have hk8 : k ≤ 8 := by have := Hk.out; omega
      have c1 := (hK.out.b.cell (p := ⟨b, off + n, none⟩) hbl).trans (HC.out n hlt)
      have x1 := HEv.out k
      have x2 := HOd.out k
      rw [← Hk.out] at x1 x2
      have Hyl : Hid ((mkL k fe).length = k ∧ (mkL k fo).length = k) := ⟨mkL_len _ _, mkL_len _ _⟩
      have ES1 := hid (mkL_succ k fe)
      have ED1 := hid (mkL_succ k fo)
      rw [← x1] at c1
      have HC2 : Hid (w.cell? ⟨b, off + (n + 1), none⟩ = some (.int .i64 (fo k))) := by show _ = _; rw [HC.out (n + 1) hn1, x2]
      clear x1 x2 HEv HOd HC EE EO
      generalize fe k = x at *
      generalize fo k = y at *
      have hsw := hK.out.b.size
      have hnI : (n : Int) < (N : Int) := by omega
      have hnI1 : (n : Int) + 1 < (N : Int) := by omega
      obtain ⟨au, cu, hu, _⟩ := hK.out.s.sl
      obtain ⟨at', ct, ht, _⟩ := hK.out.d.sl
      rw [Hyl.out.1] at hu
      rw [Hyl.out.2] at ht
      subst hu ht
      have HO1 := hid (hK.out.s.alloc (.cells #[.int .i64 x] 2))
      have HQ1 := hid (hK.out.d.alloc (.cells #[.int .i64 x] 2))
      have HL1 := hid (bmore hK.out.b (.cells #[.int .i64 x] 2))
      have HNe := hid hK.out.ne
      clear hK
      go_wp2_with (at_builtin; refine wpList_append_ints _ rfl _ _ rfl w.heap.size _ (mkL k fe) rfl HO1.out _ [x] rfl (sl_lit _ _ _ _ _ _ rfl rfl) (by simp) ?c1 ?c2 ?_)
      case c1 => rw [Hyl.out.1]; simp only [List.length_singleton]; omega
      case c2 => simp; omega
      intro g5 cap5 n5 w5 hn5 ho5 hg5 hat5
      have Hn5 : Hid (n5 = k + 1) := by show _ = _; have := Hyl.out.1; first | omega | (simp only [List.length_append, List.length_singleton] at hn5; omega)
      have HNe5 : Hid (∀ g, (Value.slice at' k ct).ownBlock = some g → g ≠ g5) := by
        intro g e
        rcases hat5 with h | h
        · intro eg; subst eg; exact HNe.out _ h e
        · have := (HQ1.out.block g e).2
          rw [World.size_alloc] at this
          first | omega | (rw [World.size_alloc] at h; omega)
      have HD5 := hid (Ow.keptNe HQ1.out hg5 (fun j e => HNe.out j e))
      have HL5 := hid (HL1.out.trans (below_of_grown hg5 (by simp; omega) (fun i e => (HO1.out.block i e).1)))
      have HS5 := hid ho5
      have hs5 : wr.heap.size + 1 ≤ w5.heap.size := by have := hg5.size; simpa using this
      have hb5 := HS5.out.block g5 rfl
      have c2 := (HL5.out.cell (p := ⟨b, off + (n + 1), none⟩) hbl).trans HC2.out
      clear hn5 ho5 hg5 hat5 HO1 HQ1 HL1 HNe HC2
      have HO6 := hid (HD5.out.alloc (.cells #[.int .i64 y] 2))
      have HQ6 := hid (HS5.out.alloc (.cells #[.int .i64 y] 2))
      have HL6 := hid (bmore HL5.out (.cells #[.int .i64 y] 2))
      clear HD5 HS5 HL5
      go_wp2_with (at_builtin; refine wpList_append_ints _ rfl _ _ rfl w.heap.size _ (mkL k fo) rfl HO6.out _ [y] rfl (sl_lit _ _ _ _ _ _ rfl rfl) (by simp) ?c1 ?c2 ?_)
      case c1 => rw [Hyl.out.2]; simp only [List.length_singleton]; omega
      case c2 => simp; omega
      intro g7 cap7 n7 w7 hn7 ho7 hg7 hat7
      have Hn7 : Hid (n7 = k + 1) := by show _ = _; have := Hyl.out.2; first | omega | (simp only [List.length_append, List.length_singleton] at hn7; omega)
      have hne7 : g5 ≠ g7 := by
        rcases hat7 with h | h
        · exact (HNe5.out g7 h).symm
        · omega
      have HK7 : Hid (UK w (.slice (some ⟨g5, 0, none⟩) n5 cap5) (.slice (some ⟨g7, 0, none⟩) n7 cap7) (mkL (k + 1) fe) (mkL (k + 1) fo) w7) := by
        have hS7 := Ow.keptNe HQ6.out hg7 (fun j e => by
          intro h
          have : g5 = j := by simpa [Value.ownBlock] using h
          exact HNe5.out j e this.symm)
        have hL7 := HL6.out.trans (below_of_grown hg7 (by simp; omega) (fun i e => (HO6.out.block i e).1))
        refine ⟨fun g e1 e2 => ?_, ?_, ?_, hL7⟩
        · simp [Value.ownBlock] at e1 e2; omega
        · rw [ES1.out]; exact hS7
        · rw [ED1.out]; exact ho7
      have Hk2 : Hid (n + 2 = 2 * (k + 1)) := by have := Hk.out; show _ = _; omega
      clear hn7 ho7 hg7 hat7 HO6 HQ6 HL6 Hn5 Hn7 Hk
      go_wp2
      go_roundw
      case rel => exact ⟨k + 1, n + 2, _, _, by go_num, rfl, rfl, Hk2, by omega, HK7⟩
      case measure => simp [intOf]; omega
    · obtain rfl : n = N := by omega
      have hkm : k = m := by have := Hk.out; have := HN.out; omega
      rw [hkm, ← EE.out, ← EO.out] at hK
      clear EE EO HEv HOd hkm Hk
      go_wp2
      go_ret2
      exact ⟨_, _, rfl, hK.out⟩
set_option maxHeartbeats 1000000 in
theorem spread_calls : ∀ (k : Nat) (v : Value) (l : List Int) (M : Int) (w : World), k ≤ 4 → Sl .i64 w v l → Fits v → l.length = 2 ^ k → lim M l → bS k M ≤ 34359738368 → Tab w →
    Calls Tryd.prog 54 #[v] w fun e w' => ∃ u, e = .returned u ∧ Sl .i64 w' u (sp k l) ∧ (k ≠ 0 → OwI w.heap.size w' u (sp k l)) ∧ Below w.heap.size w w' := by
  intro k
  induction k with
  | zero =>
    intro v l M w _ h _ hl _ _ _
    have HS := hid h
    obtain ⟨a, cap, rfl, _⟩ := h
    have h1 : l.length = 1 := hl
    rw [h1] at HS
    rw [h1]
    clear hl h1
    go_enter Tryd.func54, Tryd.ntmps54
    go_wp2
    go_ret
    exact ⟨_, rfl, HS.out, fun h => absurd rfl h, Below.refl _ _⟩
  | succ k ih =>
    intro v l M w hk h hf hl hM hB hT
    have h0 := hM.pos
    have hsz : sz4 l.length := by rw [hl]; exact sz4_pow hk
    have h2k : 2 ^ (k + 1) = 2 * 2 ^ k := by rw [Nat.pow_succ]; omega
    have hl2 : l.length / 2 = 2 ^ k := by rw [hl, h2k]; omega
    have HH := hid (halve_calls v l w h hf hsz (hM.mono (by have := le_bS (k + 1) h0; omega)) hT)
    have HT := hid hT
    have HlS := hid (show (hS l).length = 2 ^ k by rw [hS_len, hl2])
    have HlD := hid (show (hD l).length = 2 ^ k by rw [hD_len, hl2])
    have HIS := hid (fun W v' (hv : Sl .i64 W v' (hS l)) (hv2 : Fits v') (ht : Tab W) => ih v' (hS l) M W (by omega) hv hv2 HlS.out (lim_hS hM) (Int.le_trans (bS_mono k (by omega)) hB) ht)
    have HID := hid (fun W v' (hv : Sl .i64 W v' (hD l)) (hv2 : Fits v') (ht : Tab W) => ih v' (hD l) (3 * M + 3) W (by omega) hv hv2 HlD.out (lim_hD hsz hM) hB ht)
    have HlA := hid (sp_len k (hS l) HlS.out)
    have HlB := hid (sp_len k (hD l) HlD.out)
    have HE : Hid (sp (k + 1) l = inter (sp k (hS l)) (sp k (hD l))) := rfl
    rw [hl2] at HH
    obtain ⟨a, cap, rfl, _⟩ := h
    have h16 : 2 ^ k ≤ 8 ∧ 1 ≤ 2 ^ k := by
      rcases k with _ | _ | _ | _ | k
      · decide
      · decide
      · decide
      · decide
      · omega
    rw [h2k] at hl
    rw [hl] at HH ⊢
    clear ih hsz hM hB hl hl2 h2k hf hT
    generalize sp (k + 1) l = R at *
    generalize sp k (hS l) = A at *
    generalize sp k (hD l) = B at *
    generalize hS l = S at *
    generalize hD l = D at *
    generalize 2 ^ k = m at *
    have hn1 : ((2 * m : Nat) : Int) ≠ 1 := by omega
    have H16 := hid h16
    have hn16 : 2 * m ≤ 16 := by omega
    generalize h2m : 2 * m = n at *
    have H2m := hid h2m
    clear h2m h16
    have hnb : ((n : Int) == 1) = false := by simpa using hn1
    go_enter Tryd.func54, Tryd.ntmps54
    go_wp2_with fail
    refine HH.out.mono ?_
    rintro e w1 ⟨gs, gd, rfl, hk1⟩
    have HK1 := hid hk1
    clear hk1 HH
    have HS1 : Hid (Sl .i64 w1 (.slice (some ⟨gs, 0, none⟩) m m) S) := by have := (HK1.out.s.ow (base := 0) (Nat.zero_le _) (by have := HlS.out; have := H16.out; omega)).sl; rwa [HlS.out] at this
    have HD1 : Hid (Sl .i64 w1 (.slice (some ⟨gd, 0, none⟩) m m) D) := by have := (HK1.out.d.ow (base := 0) (Nat.zero_le _) (by have := HlD.out; have := H16.out; omega)).sl; rwa [HlD.out] at this
    have HB1 := hid HK1.out.b
    clear HK1
    go_wp2_with fail
    refine (HIS.out _ _ HS1.out (Nat.le_refl m) (HT.out.later HB1.out)).mono ?_
    rintro e w2 ⟨u, rfl, hs2, _, hb2⟩
    have HA2 := hid hs2
    have HB2 := hid (bthen HB1.out hb2)
    have HD2 := hid (HD1.out.later hb2)
    obtain ⟨au, cu, rfl, _⟩ := hs2
    rw [HlA.out] at HA2 ⊢
    clear hb2 HS1 HD1 HB1 HIS
    go_wp2_with fail
    refine (HID.out _ _ HD2.out (Nat.le_refl m) (HT.out.later HB2.out)).mono ?_
    rintro e w3 ⟨t, rfl, hs3, _, hb3⟩
    have HT3 := hid hs3
    have HA3 := hid (HA2.out.later hb3)
    have HB3 := hid (bthen HB2.out hb3)
    obtain ⟨at', ct, rfl, _⟩ := hs3
    rw [HlB.out] at HT3 ⊢
    clear hb3 HA2 HB2 HD2 HID
    go_wp2_with fail
    refine (weave_calls _ _ A B m _ HA3.out HT3.out HlA.out HlB.out ⟨H16.out.2, H16.out.1⟩).mono ?_
    rintro e w4 ⟨g, cg, rfl, ho, hb4⟩
    have HB4 := hid (bthen HB3.out hb4)
    have HO := hid (App.Ow.mono ho HB3.out.size)
    rw [← HE.out] at HO
    clear ho hb4 HA3 HT3 HB3
    go_wp2
    go_ret
    exact ⟨_, rfl, HO.out.sl, fun _ => HO.out, HB4.out⟩
set_option maxHeartbeats 2000000 in
theorem gather_calls (kd : Bool) (hkd : has kd) (wv : Value) : ∀ (k : Nat) (v : Value) (c : List Int) (M : Int) (w : World), k ≤ 4 → Sl .i64 w v c → c.length = 2 ^ k → wlim kd M c → bG k M ≤ 34359738368 → Tab w → WayV kd w wv →
    Calls Tryd.prog 91 #[v, wv] w fun e w' => ∃ u, e = .returned u ∧ Sl .i64 w' u (wga kd k c) ∧ (k ≠ 0 → OwI w.heap.size w' u (wga kd k c)) ∧ Below w.heap.size w w' := by
  intro k
  induction k with
  | zero =>
    intro v l M w _ h hl _ _ _ hw
    obtain ⟨sg, rfl, _⟩ := hw
    have HS := hid h
    obtain ⟨a, cap, rfl, _⟩ := h
    have h1 : l.length = 1 := hl
    rw [h1] at HS
    rw [h1]
    clear hl h1
    unfold wayV
    go_enter Tryd.func91, Tryd.ntmps91
    go_wp2
    go_ret
    exact ⟨_, rfl, HS.out.later (bmore (Below.refl _ _) _), fun h => absurd rfl h, bmore (Below.refl _ _) _⟩
  | succ k ih =>
    intro v c M w hk h hl hM hB hT hwv
    have h0 := hM.pos
    have hsz : sz4 (2 * 2 ^ k) := by rw [show 2 * 2 ^ k = 2 ^ (k + 1) by rw [Nat.pow_succ]; omega]; exact sz4_pow hk
    have h2k : 2 ^ (k + 1) = 2 * 2 ^ k := by rw [Nat.pow_succ]; omega
    have hl2 : c.length / 2 = 2 ^ k := by rw [hl, h2k]; omega
    have hGk : bG k M ≤ 34359738368 := by
      have h1 : bG (k + 1) M = 2 * bG k M + 3 := rfl
      have := le_bG k h0
      omega
    have hl1 : (ev c).length = 2 ^ k := by rw [ev_len, hl2]
    have hl3 : (od c).length = 2 ^ k := by rw [od_len, hl2]
    have HlA := hid (wga_len kd k (ev c) hl1)
    have HlB := hid (wga_len kd k (od c) hl3)
    have HIE : Hid (∀ W v', Sl .i64 W v' (ev c) → Tab W → WayV kd W wv → Calls Tryd.prog 91 #[v', wv] W fun e w' => ∃ au cu, e = .returned (.slice au (2 ^ k : Nat) cu) ∧ Sl .i64 w' (.slice au (2 ^ k : Nat) cu) (wga kd k (ev c)) ∧ Below W.heap.size W w') := by
      intro W v' hv ht hw
      refine (ih v' (ev c) M W (by omega) hv hl1 (wlim_ev hM) hGk ht hw).mono ?_
      rintro e w' ⟨u, rfl, hs, _, hb⟩
      have hs' := hs
      obtain ⟨au, cu, rfl, _⟩ := hs
      rw [HlA.out] at hs' ⊢
      exact ⟨au, cu, rfl, hs', hb⟩
    have HIO : Hid (∀ W v', Sl .i64 W v' (od c) → Tab W → WayV kd W wv → Calls Tryd.prog 91 #[v', wv] W fun e w' => ∃ au cu, e = .returned (.slice au (2 ^ k : Nat) cu) ∧ Sl .i64 w' (.slice au (2 ^ k : Nat) cu) (wga kd k (od c)) ∧ Below W.heap.size W w') := by
      intro W v' hv ht hw
      refine (ih v' (od c) M W (by omega) hv hl3 (wlim_od hM) hGk ht hw).mono ?_
      rintro e w' ⟨u, rfl, hs, _, hb⟩
      have hs' := hs
      obtain ⟨au, cu, rfl, _⟩ := hs
      rw [HlB.out] at hs' ⊢
      exact ⟨au, cu, rfl, hs', hb⟩
    have HLA := hid ((wlim_ga k (by omega) hl1 (wlim_ev hM)).mono hGk)
    have HLB := hid ((wlim_ga k (by omega) hl3 (wlim_od hM)).mono hGk)
    have HE : Hid (wga kd (k + 1) c = wun kd (wga kd k (ev c)) (wga kd k (od c))) := rfl
    have h16 : 2 ^ k ≤ 8 ∧ 1 ≤ 2 ^ k := by
      rcases k with _ | _ | _ | _ | k
      · decide
      · decide
      · decide
      · decide
      · omega
    rw [h2k] at hl
    have HUw := hid (fun W (h : Sl .i64 W v c) => unweave_calls v c (2 ^ k) W h hl ⟨h16.2, h16.1⟩)
    have HUl := hid (wun_len kd (wga kd k (ev c)) (wga kd k (od c)))
    rw [HlA.out] at HUl
    have HUn := hid (fun W va vb (ha : Sl .i64 W va (wga kd k (ev c))) (hb : Sl .i64 W vb (wga kd k (od c))) (ht : Tab W) (hw : WayV kd W wv) => unite_calls kd hkd wv va vb _ _ W ha hb (by rw [HlA.out]; exact hsz) (by rw [HlA.out, HlB.out]) HLA.out HLB.out ht hw)
    rw [HlA.out] at HUn
    rw [← HE.out] at HUn HUl
    have HlE := hid hl1
    have HlO := hid hl3
    have HT := hid hT
    have H := hid h
    obtain ⟨sg, rfl, hSB⟩ := hwv
    have HSB := hid hSB
    obtain ⟨a, cap, rfl, _⟩ := h
    rw [hl] at H HUw ⊢
    clear ih hsz hM hB hl hl2 h2k hl1 hl3 hT hGk h0 HLA HLB HE hSB HlA HlB
    generalize wga kd (k + 1) c = R at *
    generalize wga kd k (ev c) = A at *
    generalize wga kd k (od c) = B at *
    generalize ev c = S at *
    generalize od c = D at *
    generalize 2 ^ k = m at *
    have hn1 : ((2 * m : Nat) : Int) ≠ 1 := by omega
    have hn16 : 2 * m ≤ 16 := by omega
    generalize h2m : 2 * m = n at *
    clear h2m h16
    have hnb : ((n : Int) == 1) = false := by simpa using hn1
    unfold wayV at *
    go_enter Tryd.func91, Tryd.ntmps91
    go_wp2_with fail
    refine (HUw.out _ (H.out.later (bmore (Below.refl _ _) _))).mono ?_
    rintro e w1 ⟨u1, t1, rfl, hk1⟩
    have hS1 := hk1.s.sl
    have hD1 := hk1.d.sl
    have hb1 := bthen (bmore (Below.refl _ w) _) hk1.b
    have hY1 := (Blk.new w #[.slice (some ⟨sg, 0, none⟩) 3 3, .func (.func (fP kd)) #[] #[]] 115).later hk1.b
    obtain ⟨a1, c1, rfl, _⟩ := id hS1
    obtain ⟨a2, c2, rfl, _⟩ := id hD1
    rw [HlE.out] at hS1 ⊢
    rw [HlO.out] at hD1 ⊢
    have hT1 := HT.out.later hb1
    have hW1 : WayV kd w1 (wayV kd sg) := ⟨sg, rfl, HSB.out.later hb1⟩
    obtain ⟨q0, q1, _, _⟩ := hY1.two
    have hyl := hY1.lt
    have hy3 : ∀ W, Below w1.heap.size w1 W → W.cell? ⟨w.heap.size, 0, none⟩ = some (.slice (some ⟨sg, 0, none⟩) 3 3) := fun W h => (h.cell (p := ⟨w.heap.size, 0, none⟩) hyl).trans q0
    have hy4 : ∀ W, Below w1.heap.size w1 W → W.cell? ⟨w.heap.size, 1, none⟩ = some (.func (.func (fP kd)) #[] #[]) := fun W h => (h.cell (p := ⟨w.heap.size, 1, none⟩) hyl).trans q1
    have hL1 : Below w1.heap.size w1 w1.drew := (Below.refl _ w1).drew
    have Hb1 := hid hb1
    have HS1 := hid hS1
    have HD1 := hid hD1
    have HT1 := hid hT1
    have HW1 := hid hW1
    clear hk1 HUw H HT HSB hS1 hD1 hT1 hW1 hb1 q0 q1 hY1
    go_upto_region 4 with fail
    refine wp_region_noPanic ?_
    refine wp_region_held_drew (S := fun W => Below w1.heap.size w1 W) (by kernel_rfl) (by first | exact hL4 | exact hL3 | exact hL2 | exact hL1) (fun hHeld => ?_)
    (refine wpAnyH_take (i := 0) (v := ?_) rfl (by kernel_rfl) (by kernel_rfl) (by kernel_rfl) (fun _ _ _ h => h) (Or.inl ⟨by rfl, ?_⟩) hHeld ?_; rotate_left; (intro w hSw; (have s3 := hy3 _ hSw; have s4 := hy4 _ hSw; clear hSw); (go_simp <;> with_reducible rfl)); simp only [List.getElem_toArray, List.getElem_cons_zero, Act.put, List.setIfInBounds_toArray, List.set_cons_zero, List.set_cons_succ])
    (refine wpAnyH_take (i := 1) (v := ?_) rfl (by kernel_rfl) (by kernel_rfl) (by kernel_rfl) (fun _ _ _ h => h) (Or.inl ⟨by rfl, ?_⟩) hHeld ?_; rotate_left; (intro w hSw; (have s3 := hy3 _ hSw; have s4 := hy4 _ hSw; clear hSw); (go_simp <;> with_reducible rfl)); simp only [List.getElem_toArray, List.getElem_cons_zero, List.getElem_cons_succ, Act.put, List.setIfInBounds_toArray, List.set_cons_zero, List.set_cons_succ])
    (refine wpAnyH_take (i := 3) (v := ?_) rfl (by kernel_rfl) (by kernel_rfl) (by kernel_rfl) (fun _ _ _ h => h) (Or.inl ⟨by rfl, ?_⟩) hHeld ?_; rotate_left; (intro w hSw; (have s3 := hy3 _ hSw; have s4 := hy4 _ hSw; clear hSw); (go_simp <;> with_reducible rfl)); simp only [List.getElem_toArray, List.getElem_cons_zero, List.getElem_cons_succ, Act.put, List.setIfInBounds_toArray, List.set_cons_zero, List.set_cons_succ])
    (refine wpAnyH_take (i := 4) (v := ?_) rfl (by kernel_rfl) (by kernel_rfl) (by kernel_rfl) (fun _ _ _ h => h) (Or.inl ⟨by rfl, ?_⟩) hHeld ?_; rotate_left; (intro w hSw; (have s3 := hy3 _ hSw; have s4 := hy4 _ hSw; clear hSw); (go_simp <;> with_reducible rfl)); simp only [List.getElem_toArray, List.getElem_cons_zero, List.getElem_cons_succ, Act.put, List.setIfInBounds_toArray, List.set_cons_zero, List.set_cons_succ])
    (refine wpAnyH_take (i := 6) (v := ?_) rfl (by kernel_rfl) (by kernel_rfl) (by kernel_rfl) (fun _ _ _ h => h) (Or.inl ⟨by rfl, ?_⟩) hHeld ?_; rotate_left; (intro w hSw; (have s3 := hy3 _ hSw; have s4 := hy4 _ hSw; clear hSw); (go_simp <;> with_reducible rfl)); simp only [List.getElem_toArray, List.getElem_cons_zero, List.getElem_cons_succ, Act.put, List.setIfInBounds_toArray, List.set_cons_zero, List.set_cons_succ])
    refine wpAnyH_ready (rs := [2]) (by kernel_rfl) (by simp) ?_
    refine (AllReadyH.cons rfl (fun K hK => ?_) AllReadyH.nil)
    go_simp
    (refine (HIE.out _ _ (HS1.out.later hHeld) (HT1.out.later hHeld) (HW1.out.later hHeld)).mono ?_; rintro e w2 ⟨au, cu, rfl, hA2, hb2⟩; have hL2 := bthen hHeld hb2)
    refine hK.out _ _ (by first | exact hL4 | exact hL3 | exact hL2 | exact hL1) (fun hHeld => ?_)
    clear hK K
    try dsimp only
    refine wpAnyH_ready (rs := [5]) (by kernel_rfl) (by simp) ?_
    refine (AllReadyH.cons rfl (fun K hK => ?_) AllReadyH.nil)
    go_simp
    (refine (HIO.out _ _ (HD1.out.later hHeld) (HT1.out.later hHeld) (HW1.out.later hHeld)).mono ?_; rintro e w3 ⟨at', ct, rfl, hB3, hb3⟩; have hL3 := bthen hHeld hb3; have hA3 := hA2.later hb3)
    refine hK.out _ _ (by first | exact hL4 | exact hL3 | exact hL2 | exact hL1) (fun hHeld => ?_)
    clear hK K
    try dsimp only
    refine wpAnyH_ready (rs := [7]) (by kernel_rfl) (by simp) ?_
    refine (AllReadyH.cons rfl (fun K hK => ?_) AllReadyH.nil)
    go_simp
    (refine (HUn.out _ _ _ hA3 hB3 (HT1.out.later hHeld) (HW1.out.later hHeld)).mono ?_; rintro e w4 ⟨g, rfl, hu⟩; have hL4 := bthen hHeld hu.k; have hz3 := hHeld.size)
    refine hK.out _ _ (by first | exact hL4 | exact hL3 | exact hL2 | exact hL1) (fun hHeld => ?_)
    clear hK K
    try dsimp only
    (refine wpAnyH_take (i := 8) (v := ?_) rfl (by kernel_rfl) (by kernel_rfl) (by kernel_rfl) (fun _ _ _ h => h) (Or.inl ⟨by rfl, ?_⟩) hHeld ?_; rotate_left; (intro w hSw; (have s3 := hy3 _ hSw; have s4 := hy4 _ hSw; clear hSw); (go_simp <;> with_reducible rfl)); simp only [List.getElem_toArray, List.getElem_cons_zero, List.getElem_cons_succ, Act.put, List.setIfInBounds_toArray, List.set_cons_zero, List.set_cons_succ])
    refine wpAnyH_done (by kernel_rfl) ?_ _
    refine NoPanic.normal ?_
    have HB4 := hid (bthen Hb1.out hL4)
    have HO : Hid (OwI w.heap.size w4 (.slice (some ⟨g, 0, none⟩) n n) R) := by
      have h0 := Hb1.out.size
      have := hu.b.ow (base := w.heap.size) (Nat.le_trans (Nat.le_trans h0 hz3) hu.l) (by have := HUl.out; omega)
      rwa [HUl.out] at this
    go_wp2
    go_ret
    exact ⟨_, rfl, HO.out.sl, fun _ => HO.out, HB4.out⟩
end Go.Proofs.YtgnbailcibhenaaDoor.SgI
