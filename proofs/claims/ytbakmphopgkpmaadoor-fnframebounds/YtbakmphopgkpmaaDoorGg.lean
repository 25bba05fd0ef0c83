/- The model's coefficients of a list, and the list of coefficients. Conditions: 1, 2, 4, 8 or 16 numbers, not too great. || The model's list of coefficients. Conditions: 1, 2, 4, 8 or 16 coefficients, not too great. || HalveList, UniteHalves, SpreadBlock and GatherBlock of the model: what they return at every argument of at most 1048576 numbers. -/
import Derived.Test.YtbakmphopgkpmaaDoorUniS
import Derived.Test.YtbakmphopgkpmaaDoorGa
import Derived.Maps.AppendAt
namespace Go.Proofs.YtbakmphopgkpmaaDoor.SprS
open Go.ChangeShapes Go.WideShapes Go.ChangeAt Go.RowKit Go.Proofs.YtbakmphopgkpmaaDoor.Num Go.Proofs.YtbakmphopgkpmaaDoor.Sli Go.Proofs.YtbakmphopgkpmaaDoor.App Go.Proofs.YtbakmphopgkpmaaDoor.Div Go.Proofs.YtbakmphopgkpmaaDoor.TurM Go.Proofs.YtbakmphopgkpmaaDoor.HalM Go.Proofs.YtbakmphopgkpmaaDoor.IntL Go.Proofs.YtbakmphopgkpmaaDoor.IntA Go.Proofs.YtbakmphopgkpmaaDoor.HalS Go.Proofs.YtbakmphopgkpmaaDoor.UniS

theorem le_bS : ∀ (k : Nat) {M : Int}, 0 ≤ M → M ≤ bS k M
  | 0, _, _ => Int.le_refl _
  | k + 1, M, h => Int.le_trans (show M ≤ 3 * M + 3 by omega) (le_bS k (by omega))
theorem own_succ {w : World} {base : Nat} {e : TypeId} {v : Value} {n : Nat} {xs : List Value} (h : w.ownsRow base e 1 v (n + 1) xs) : ∃ g c, v = .slice (some ⟨g, 0, none⟩) (n + 1) c := by
  rcases h.2 with ⟨_, h0⟩ | ⟨g, cap, _, rfl, _⟩
  · omega
  · exact ⟨g, cap, rfl⟩
/-- Two numbers are appended. -/
theorem app_two {base : Nat} {W : World} {u : Value} {xs : List Int} {x y : Int} (ty : TypeId) (h : OwI base W u xs) (hbase : base ≤ W.heap.size) (hlen : xs.length ≤ 100000) :
    ∃ gc cc w1, (Builtin.append_ #[30, 30] ty #[u, .slice (some ⟨W.heap.size, 0, none⟩) 2 2]).run Tryd.prog (W.alloc (.cells #[.int .i64 x, .int .i64 y] 2)) = .ok (.slice (some ⟨gc, 0, none⟩) (xs.length + 2) cc) w1 ∧
      OwI base w1 (.slice (some ⟨gc, 0, none⟩) (xs.length + 2) cc) (xs ++ [x, y]) ∧ (W.alloc (.cells #[.int .i64 x, .int .i64 y] 2)).grownBy w1 u.ownBlock ∧ (u.ownBlock = some gc ∨ gc = W.heap.size + 1) := by
  obtain ⟨i0, hi, hz0, hz1, hz2⟩ := info_parts infoI
  have h' : W.ownsRow base 2 1 u xs.length (xs.map (Value.int .i64)) := h
  obtain ⟨v', w', hrun, hown, hg, _, hbl⟩ := run_append_own_at (W.alloc (.cells #[.int .i64 x, .int .i64 y] 2)) base 30 ty 2 i0 (.int .i64 0) 1 8 Tryd.underlying30 hi hz0 hz1 hz2 rfl (by decide) u xs.length (xs.map (Value.int .i64)) (h'.alloc _) ⟨W.heap.size, 0, none⟩ 2 2 [.int .i64 x, .int .i64 y] rfl
    (by intro j z hj; match j, hj with
      | 0, hj => simp at hj; subst hj; simp [Addr.add]
      | 1, hj => simp at hj; subst hj; simp [Addr.add]
      | j + 2, hj => simp at hj) (by simp [Value.oneCell']) (by rw [show maxLen = 9223372036854775807 by decide]; omega) (by omega) (by simp; omega)
  obtain ⟨gc, cc, rfl⟩ := own_succ hown
  refine ⟨gc, cc, w', hrun, ?_, hg, ?_⟩
  rotate_left
  · rcases hbl with h1 | h1
    · left; rw [← h1]; rfl
    · right; simpa [Value.ownBlock] using h1
  show w'.ownsRow base 2 1 _ (xs ++ [x, y]).length ((xs ++ [x, y]).map (Value.int .i64))
  rw [List.length_append, List.map_append]
  exact hown
/-- Two lists of m numbers that are read, and one that grows. -/
structure SK (w : World) (m ga ca gb cb n go co : Nat) (A B O : List Int) (W : World) : Prop where
  a : OwI w.heap.size W (.slice (some ⟨ga, 0, none⟩) m ca) A
  b : OwI w.heap.size W (.slice (some ⟨gb, 0, none⟩) m cb) B
  o : OwI w.heap.size W (.slice (some ⟨go, 0, none⟩) n co) O
  na : ga ≠ go
  nb : gb ≠ go
  l : Below w.heap.size w W
theorem SK.drew {w : World} {m ga ca gb cb n go co : Nat} {A B O : List Int} {W : World} (h : SK w m ga ca gb cb n go co A B O W) : SK w m ga ca gb cb n go co A B O W.drew := ⟨h.a, h.b, h.o, h.na, h.nb, h.l.drew⟩
theorem inter_step (a b : List Int) (k : Nat) : mkL (2 * (k + 1)) (inE a b) = mkL (2 * k) (inE a b) ++ [a.getD k 0, b.getD k 0] := by
  rw [show 2 * (k + 1) = 2 * k + 1 + 1 by omega, mkL_succ, mkL_succ, List.append_assoc]
  have e1 : inE a b (2 * k) = a.getD k 0 := by unfold inE; rw [if_pos (by omega), show 2 * k / 2 = k by omega]
  have e2 : inE a b (2 * k + 1) = b.getD k 0 := by unfold inE; rw [if_neg (by omega), show (2 * k + 1) / 2 = k by omega]
  rw [e1, e2]; rfl

attribute [-go_sem] Builtin.append_
set_option maxHeartbeats 1000000 in
theorem l6Spread_calls : ∀ (k : Nat) (v : Value) (l : List Int) (M : Int) (w : World), k ≤ 4 → Sl .i64 w v l → l.length = 2 ^ k → lim M l → bS k M ≤ 34359738368 →
    Calls Tryd.prog 103 #[v] w fun e w' => ∃ g cap, e = .returned (.slice (some ⟨g, 0, none⟩) (2 ^ k : Nat) cap) ∧ OwI w.heap.size w' (.slice (some ⟨g, 0, none⟩) (2 ^ k) cap) (sp k l) ∧ Below w.heap.size w w' := by
  intro k
  induction k with
  | zero =>
    intro v l M w _ h hl _ _
    have HI := hid (ints_calls v l w h (by omega))
    obtain ⟨a, cap, rfl, _⟩ := h
    have h1 : l.length = 1 := hl
    rw [h1] at HI
    rw [h1]
    clear hl h1
    go_enter Tryd.func103, Tryd.ntmps103
    go_wp2_with fail
    refine HI.out.mono ?_
    rintro e w1 ⟨g, c, rfl, ho, hb⟩
    have HO := hid ho
    have HB := hid hb
    clear ho hb HI
    go_wp2
    go_ret
    exact ⟨g, c, rfl, HO.out, HB.out⟩
  | succ k ih =>
    intro v l M w hk h hl hM hB
    have h0 := hM.pos
    have hsz : sz4 l.length := by rw [hl]; exact sz4_pow hk
    have h2k : 2 ^ (k + 1) = 2 * 2 ^ k := by rw [Nat.pow_succ]; omega
    have hl2 : l.length / 2 = 2 ^ k := by rw [hl, h2k]; omega
    have HH := hid (l6Halve_calls v l M w h hsz hM (by have := le_bS (k + 1) h0; omega))
    have HlS := hid (show (hS l).length = 2 ^ k by rw [hS_len, hl2])
    have HlD := hid (show (hD l).length = 2 ^ k by rw [hD_len, hl2])
    have HIS := hid (fun W v' (hv : Sl .i64 W v' (hS l)) => ih v' (hS l) M W (by omega) hv HlS.out (lim_hS hM) (Int.le_trans (bS_mono k (by omega)) hB))
    have HID := hid (fun W v' (hv : Sl .i64 W v' (hD l)) => ih v' (hD l) (3 * M + 3) W (by omega) hv HlD.out (lim_hD hsz hM) hB)
    have HlA := hid (sp_len k (hS l) HlS.out)
    have HlB := hid (sp_len k (hD l) HlD.out)
    have HE : Hid (sp (k + 1) l = mkL (2 * 2 ^ k) (inE (sp k (hS l)) (sp k (hD l)))) := by show inter _ _ = _; unfold inter; rw [HlA.out]
    rw [hl2] at HH
    rw [h2k]
    rw [h2k] at hl
    obtain ⟨a, cap, rfl, _⟩ := h
    rw [hl] at HH ⊢
    have h16 : 2 ^ k ≤ 8 ∧ 1 ≤ 2 ^ k := by
      rcases k with _ | _ | _ | _ | k
      · decide
      · decide
      · decide
      · decide
      · omega
    clear ih hsz hM hB hl hl2 h2k HlS HlD
    generalize sp (k + 1) l = R at *
    generalize sp k (hS l) = A at *
    generalize sp k (hD l) = B at *
    generalize hS l = S at *
    generalize hD l = D at *
    generalize 2 ^ k = m at *
    obtain ⟨m8, m1⟩ := h16
    have hn1 : ((2 * m : Nat) : Int) ≠ 1 := by omega
    generalize h2m : 2 * m = n at *
    have H2m := hid h2m
    have hn16 : n ≤ 16 := by omega
    clear h2m
    have hnb : ((n : Int) == 1) = false := by simpa using hn1
    go_enter Tryd.func103, Tryd.ntmps103
    go_wp2_with fail
    refine HH.out.mono ?_
    rintro e w1 ⟨gs, cs, gd, cd, rfl, hk1⟩
    have HK1 := hid hk1
    clear hk1 HH
    go_wp2_with fail
    refine (HIS.out _ _ HK1.out.s.sl).mono ?_
    rintro e w2 ⟨ga, ca, rfl, ho2, hb2⟩
    have HA2 := hid ho2
    have HL2 := hid (bthen HK1.out.b hb2)
    have HD2 := hid (HK1.out.d.later hb2)
    have hw1 := HK1.out.b.size
    clear ho2 hb2 HK1 HIS
    go_wp2_with fail
    refine (HID.out _ _ HD2.out.sl).mono ?_
    rintro e w3 ⟨gb, cb, rfl, ho3, hb3⟩
    have hz2 := HL2.out.size
    have hga := blk_of HA2.out
    have hgb := blk_of ho3
    have HK3 : Hid (SK w m ga ca gb cb 0 w3.heap.size 0 A B (mkL (2 * 0) (inE A B)) (w3.alloc (.cells #[] 2))) :=
      ⟨((HA2.out.mono hw1).later hb3).alloc _, (ho3.mono hz2).alloc _, ow_new .i64 2 w.heap.size w3 (by have := hb3.size; omega), by have := hb3.size; omega, by omega, bmore (bthen HL2.out hb3) _⟩
    clear ho3 hb3 HA2 HL2 HD2 HID hga hgb hz2 hw1
    go_wp2_with fail
    generalize w3.heap.size = g0 at *
    go_loopw [7, 8] (fun o i wq => ∃ j go co : Nat, i = .int .i64 (j : Int) ∧ o = .slice (some ⟨go, 0, none⟩) (2 * j : Nat) co ∧ j ≤ m ∧ Hid (SK w m ga ca gb cb (2 * j) go co A B (mkL (2 * j) (inE A B)) wq)) (fun _ i _ => m - (intOf i).toNat)
    case atStart => exact ⟨0, g0, 0, rfl, rfl, Nat.zero_le _, HK3.out⟩
    case round =>
      obtain ⟨j, go, co, rfl, rfl, hj, hK⟩ := hrel
      clear HK3
      by_cases hlt : j < m
      · obtain ⟨c1, _⟩ := hK.out.a.cellAt HlA.out.symm j (by rw [HlA.out]; exact hlt)
        obtain ⟨c2, _⟩ := hK.out.b.cellAt HlB.out.symm j (by rw [HlB.out]; exact hlt)
        have hstep := hid (inter_step A B j)
        have hsw := hK.out.l.size
        have hlo : (mkL (2 * j) (inE A B)).length = 2 * j := mkL_len _ _
        have hga := blk_of hK.out.a
        have hgb := blk_of hK.out.b
        have hna := hK.out.na
        have hnb' := hK.out.nb
        generalize A.getD j 0 = x at *
        generalize B.getD j 0 = y at *
        have HOd : OwI w.heap.size wr.drew (.slice (some ⟨go, 0, none⟩) (2 * j) co) (mkL (2 * j) (inE A B)) := hK.out.o
        obtain ⟨gc, cc, w5, hrun, ho5, hg5, hat5⟩ := app_two (W := wr.drew) (x := x) (y := y) 30 HOd (show w.heap.size ≤ wr.heap.size from hsw) (by omega)
        rw [hlo] at hrun ho5
        replace hrun : (Builtin.append_ #[30, 30] 30 #[.slice (some ⟨go, 0, none⟩) (2 * j) co, .slice (some ⟨wr.heap.size, 0, none⟩) 2 2]).run Tryd.prog (wr.alloc (.cells #[.int .i64 x, .int .i64 y] 2)).drew = _ := hrun
        have a1 : (wr.alloc (.cells #[.int .i64 x, .int .i64 y] 2)).drew.cell? ⟨ga, j, none⟩ = some (.int .i64 x) := ((Below.refl wr.heap.size wr).alloc (Nat.le_refl _) _).cell (p := ⟨ga, j, none⟩) hga.2 |>.trans c1
        have a2 : (wr.alloc (.cells #[.int .i64 x, .int .i64 y] 2)).drew.cell? ⟨gb, j, none⟩ = some (.int .i64 y) := ((Below.refl wr.heap.size wr).alloc (Nat.le_refl _) _).cell (p := ⟨gb, j, none⟩) hgb.2 |>.trans c2
        have HK5 : Hid (SK w m ga ca gb cb (2 * (j + 1)) gc cc A B (mkL (2 * (j + 1)) (inE A B)) w5) := by
          have hgo : gc = go ∨ gc = wr.heap.size + 1 := by
            rcases hat5 with h | h
            · left; simpa [Value.ownBlock] using h.symm
            · right; exact h
          have hA5 := Ow.keptNe (hK.out.drew.a.alloc (.cells #[.int .i64 x, .int .i64 y] 2)) hg5 (fun i e => by simp [Value.ownBlock] at e ⊢; omega)
          have hB5 := Ow.keptNe (hK.out.drew.b.alloc (.cells #[.int .i64 x, .int .i64 y] 2)) hg5 (fun i e => by simp [Value.ownBlock] at e ⊢; omega)
          have hL5 := (bmore hK.out.drew.l (.cells #[.int .i64 x, .int .i64 y] 2)).trans (below_of_grown hg5 (by simp; omega) (fun i e => (HOd.block i e).1))
          refine ⟨hA5, hB5, ?_, by omega, by omega, hL5⟩
          rw [hstep.out, show 2 * (j + 1) = 2 * j + 2 by omega]
          exact ho5
        have b1 := HK5.out.a.cellAt HlA.out.symm j (by rw [HlA.out]; exact hlt)
        clear b1 ho5 hg5 hat5 HOd hK hlo hstep HE
        have hjm : (j : Int) < (m : Int) := by omega
        have hA0 : wr.drew.cell? ⟨ga, j, none⟩ = some (.int .i64 x) ∧ wr.drew.cell? ⟨gb, j, none⟩ = some (.int .i64 y) := ⟨c1, c2⟩
        go_wp2_with fail
        refine wp_region_noPanic ?_
        refine wp_region_held_drew (S := fun W => True) (by kernel_rfl) (by trivial) (fun hHeld => ?_)
        (refine wpAnyH_take (i := 0) (v := ?_) rfl (by kernel_rfl) (by kernel_rfl) (by kernel_rfl) (fun _ _ _ h => h) (Or.inl ⟨by rfl, ?_⟩) hHeld ?_; rotate_left; (intro w hSw; skip; (go_simp <;> with_reducible rfl)); simp only [List.getElem_toArray, List.getElem_cons_zero, Act.put, List.setIfInBounds_toArray, List.set_cons_zero, List.set_cons_succ])
        (refine wpAnyH_take (i := 1) (v := ?_) rfl (by kernel_rfl) (by kernel_rfl) (by kernel_rfl) (fun _ _ _ h => h) (Or.inl ⟨by rfl, ?_⟩) hHeld ?_; rotate_left; (intro w hSw; skip; (go_simp <;> with_reducible rfl)); simp only [List.getElem_toArray, List.getElem_cons_zero, List.getElem_cons_succ, Act.put, List.setIfInBounds_toArray, List.set_cons_zero, List.set_cons_succ])
        (refine wpAnyH_take (i := 2) (v := ?_) rfl (by kernel_rfl) (by kernel_rfl) (by kernel_rfl) (fun _ _ _ h => h) (Or.inl ⟨by rfl, ?_⟩) hHeld ?_; rotate_left; (intro w hSw; skip; (go_simp <;> with_reducible rfl)); simp only [List.getElem_toArray, List.getElem_cons_zero, List.getElem_cons_succ, Act.put, List.setIfInBounds_toArray, List.set_cons_zero, List.set_cons_succ])
        (refine wpAnyH_take (i := 3) (v := ?_) rfl (by kernel_rfl) (by kernel_rfl) (by kernel_rfl) (fun _ _ _ h => h) (Or.inl ⟨by rfl, ?_⟩) hHeld ?_; rotate_left; (intro w hSw; skip; (go_simp <;> with_reducible rfl)); simp only [List.getElem_toArray, List.getElem_cons_zero, List.getElem_cons_succ, Act.put, List.setIfInBounds_toArray, List.set_cons_zero, List.set_cons_succ])
        (refine wpAnyH_take (i := 5) (v := ?_) rfl (by kernel_rfl) (by kernel_rfl) (by kernel_rfl) (fun _ _ _ h => h) (Or.inl ⟨by rfl, ?_⟩) hHeld ?_; rotate_left; (intro w hSw; skip; (go_simp <;> with_reducible rfl)); simp only [List.getElem_toArray, List.getElem_cons_zero, List.getElem_cons_succ, Act.put, List.setIfInBounds_toArray, List.set_cons_zero, List.set_cons_succ])
        (refine wpAnyH_take (i := 6) (v := ?_) rfl (by kernel_rfl) (by kernel_rfl) (by kernel_rfl) (fun _ _ _ h => h) (Or.inl ⟨by rfl, ?_⟩) hHeld ?_; rotate_left; (intro w hSw; skip; (go_simp <;> with_reducible rfl)); simp only [List.getElem_toArray, List.getElem_cons_zero, List.getElem_cons_succ, Act.put, List.setIfInBounds_toArray, List.set_cons_zero, List.set_cons_succ])
        (refine wpAnyH_take (i := 7) (v := ?_) rfl (by kernel_rfl) (by kernel_rfl) (by kernel_rfl) (fun _ _ _ h => h) (Or.inl ⟨by rfl, ?_⟩) hHeld ?_; rotate_left; (intro w hSw; skip; (go_simp <;> with_reducible rfl)); simp only [List.getElem_toArray, List.getElem_cons_zero, List.getElem_cons_succ, Act.put, List.setIfInBounds_toArray, List.set_cons_zero, List.set_cons_succ])
        refine wpAnyH_ready (rs := [4, 8]) (by kernel_rfl) (by simp) ?_
        refine (AllReadyH.cons rfl (fun K hK => ?_) (AllReadyH.cons rfl (fun K hK => ?_) AllReadyH.nil))
        · go_simp
          skip
          refine hK.out _ _ (by trivial) (fun hHeld => ?_)
          clear hK K
          try simp only [List.getElem_toArray, List.getElem_cons_zero, List.getElem_cons_succ, Act.put, List.setIfInBounds_toArray, List.set_cons_zero, List.set_cons_succ]
          refine wpAnyH_ready (rs := [8]) (by kernel_rfl) (by simp) ?_
          refine (AllReadyH.cons rfl (fun K hK => ?_) AllReadyH.nil)
          go_simp
          skip
          refine hK.out _ _ (by trivial) (fun hHeld => ?_)
          clear hK K
          try simp only [List.getElem_toArray, List.getElem_cons_zero, List.getElem_cons_succ, Act.put, List.setIfInBounds_toArray, List.set_cons_zero, List.set_cons_succ]
          refine wpAnyH_ready (rs := [9]) (by kernel_rfl) (by simp) ?_
          refine (AllReadyH.cons rfl (fun K hK => ?_) AllReadyH.nil)
          go_simp
          skip
          refine hK.out _ _ (by trivial) (fun hHeld => ?_)
          clear hK K
          try simp only [List.getElem_toArray, List.getElem_cons_zero, List.getElem_cons_succ, Act.put, List.setIfInBounds_toArray, List.set_cons_zero, List.set_cons_succ]
          refine wpAnyH_ready (rs := [10]) (by kernel_rfl) (by simp) ?_
          refine (AllReadyH.cons rfl (fun K hK => ?_) AllReadyH.nil)
          go_simp
          skip
          refine hK.out _ _ (by trivial) (fun hHeld => ?_)
          clear hK K
          try simp only [List.getElem_toArray, List.getElem_cons_zero, List.getElem_cons_succ, Act.put, List.setIfInBounds_toArray, List.set_cons_zero, List.set_cons_succ]
          (refine wpAnyH_take (i := 11) (v := ?_) rfl (by kernel_rfl) (by kernel_rfl) (by kernel_rfl) (fun _ _ _ h => h) (Or.inl ⟨by rfl, ?_⟩) hHeld ?_; rotate_left; (intro w hSw; skip; (go_simp <;> with_reducible rfl)); simp only [List.getElem_toArray, List.getElem_cons_zero, List.getElem_cons_succ, Act.put, List.setIfInBounds_toArray, List.set_cons_zero, List.set_cons_succ])
          refine wpAnyH_done (by kernel_rfl) ?_ _
          refine NoPanic.normal ?_
          go_wp2
          go_roundw
          case rel => exact ⟨j + 1, gc, cc, by go_num, rfl, by omega, HK5.out⟩
          case measure => simp [intOf]; omega
        · go_simp
          skip
          refine hK.out _ _ (by trivial) (fun hHeld => ?_)
          clear hK K
          try simp only [List.getElem_toArray, List.getElem_cons_zero, List.getElem_cons_succ, Act.put, List.setIfInBounds_toArray, List.set_cons_zero, List.set_cons_succ]
          refine wpAnyH_ready (rs := [4]) (by kernel_rfl) (by simp) ?_
          refine (AllReadyH.cons rfl (fun K hK => ?_) AllReadyH.nil)
          go_simp
          skip
          refine hK.out _ _ (by trivial) (fun hHeld => ?_)
          clear hK K
          try simp only [List.getElem_toArray, List.getElem_cons_zero, List.getElem_cons_succ, Act.put, List.setIfInBounds_toArray, List.set_cons_zero, List.set_cons_succ]
          refine wpAnyH_ready (rs := [9]) (by kernel_rfl) (by simp) ?_
          refine (AllReadyH.cons rfl (fun K hK => ?_) AllReadyH.nil)
          go_simp
          skip
          refine hK.out _ _ (by trivial) (fun hHeld => ?_)
          clear hK K
          try simp only [List.getElem_toArray, List.getElem_cons_zero, List.getElem_cons_succ, Act.put, List.setIfInBounds_toArray, List.set_cons_zero, List.set_cons_succ]
          refine wpAnyH_ready (rs := [10]) (by kernel_rfl) (by simp) ?_
          refine (AllReadyH.cons rfl (fun K hK => ?_) AllReadyH.nil)
          go_simp
          skip
          refine hK.out _ _ (by trivial) (fun hHeld => ?_)
          clear hK K
          try simp only [List.getElem_toArray, List.getElem_cons_zero, List.getElem_cons_succ, Act.put, List.setIfInBounds_toArray, List.set_cons_zero, List.set_cons_succ]
          (refine wpAnyH_take (i := 11) (v := ?_) rfl (by kernel_rfl) (by kernel_rfl) (by kernel_rfl) (fun _ _ _ h => h) (Or.inl ⟨by rfl, ?_⟩) hHeld ?_; rotate_left; (intro w hSw; skip; (go_simp <;> with_reducible rfl)); simp only [List.getElem_toArray, List.getElem_cons_zero, List.getElem_cons_succ, Act.put, List.setIfInBounds_toArray, List.set_cons_zero, List.set_cons_succ])
          refine wpAnyH_done (by kernel_rfl) ?_ _
          refine NoPanic.normal ?_
          go_wp2
          go_roundw
          case rel => exact ⟨j + 1, gc, cc, by go_num, rfl, by omega, HK5.out⟩
          case measure => simp [intOf]; omega
      · obtain rfl : j = m := by omega
        rw [H2m.out, ← HE.out] at hK
        go_wp2
        go_ret
        exact ⟨go, co, (by rw [← H2m.out]; rfl), hK.out.o, hK.out.l⟩
end Go.Proofs.YtbakmphopgkpmaaDoor.SprS

namespace Go.Proofs.YtbakmphopgkpmaaDoor.GatS
open Go.ChangeShapes Go.WideShapes Go.ChangeAt Go.RowKit Go.Proofs.YtbakmphopgkpmaaDoor.Num Go.Proofs.YtbakmphopgkpmaaDoor.Sli Go.Proofs.YtbakmphopgkpmaaDoor.App Go.Proofs.YtbakmphopgkpmaaDoor.Div Go.Proofs.YtbakmphopgkpmaaDoor.TurM Go.Proofs.YtbakmphopgkpmaaDoor.HalM Go.Proofs.YtbakmphopgkpmaaDoor.IntL Go.Proofs.YtbakmphopgkpmaaDoor.IntA Go.Proofs.YtbakmphopgkpmaaDoor.HalS Go.Proofs.YtbakmphopgkpmaaDoor.UniS

def evE (c : List Int) (i : Nat) : Int := c.getD (2 * i) 0
def odE (c : List Int) (i : Nat) : Int := c.getD (2 * i + 1) 0
theorem le_bG : ∀ (k : Nat) {M : Int}, 0 ≤ M → 0 ≤ bG k M ∧ M ≤ bG k M
  | 0, _, h => ⟨h, Int.le_refl _⟩
  | k + 1, M, h => by have := le_bG k h; show 0 ≤ 2 * bG k M + 3 ∧ M ≤ 2 * bG k M + 3; omega
set_option maxHeartbeats 1000000 in
theorem l6Gather_calls : ∀ (k : Nat) (v : Value) (c : List Int) (M : Int) (w : World), k ≤ 4 → Sl .i64 w v c → c.length = 2 ^ k → lim M c → bG k M ≤ 34359738368 →
    Calls Tryd.prog 72 #[v] w fun e w' => ∃ g cap, e = .returned (.slice (some ⟨g, 0, none⟩) (2 ^ k : Nat) cap) ∧ OwI w.heap.size w' (.slice (some ⟨g, 0, none⟩) (2 ^ k) cap) (ga k c) ∧ Below w.heap.size w w' := by
  intro k
  induction k with
  | zero =>
    intro v l M w _ h hl _ _
    have HI := hid (ints_calls v l w h (by omega))
    obtain ⟨a, cap, rfl, _⟩ := h
    have h1 : l.length = 1 := hl
    rw [h1] at HI
    rw [h1]
    clear hl h1
    go_enter Tryd.func72, Tryd.ntmps72
    go_wp2_with fail
    refine HI.out.mono ?_
    rintro e w1 ⟨g, cp, rfl, ho, hb⟩
    have HO := hid ho
    have HB := hid hb
    clear ho hb HI
    go_wp2
    go_ret
    exact ⟨g, cp, rfl, HO.out, HB.out⟩
  | succ k ih =>
    intro v c M w hk h hl hM hB
    have h0 := hM.pos
    have hsz : sz4 (2 * 2 ^ k) := by rw [show 2 * 2 ^ k = 2 ^ (k + 1) by rw [Nat.pow_succ]; omega]; exact sz4_pow hk
    have h2k : 2 ^ (k + 1) = 2 * 2 ^ k := by rw [Nat.pow_succ]; omega
    have hl2 : c.length / 2 = 2 ^ k := by rw [hl, h2k]; omega
    have hGk : bG k M ≤ 34359738368 := by
      have h1 : bG (k + 1) M = 2 * bG k M + 3 := rfl
      have := le_bG k h0
      omega
    have hl1 : (ev c).length = 2 ^ k := by rw [ev_len, hl2]
    have hl3 : (od c).length = 2 ^ k := by rw [od_len, hl2]
    have HIE := hid (fun W v' (hv : Sl .i64 W v' (ev c)) => ih v' (ev c) M W (by omega) hv hl1 (lim_ev hM) hGk)
    have HIO := hid (fun W v' (hv : Sl .i64 W v' (od c)) => ih v' (od c) M W (by omega) hv hl3 (lim_od hM) hGk)
    have HlA := hid (ga_len k (ev c) hl1)
    have HlB := hid (ga_len k (od c) hl3)
    have HLA := hid (lim_ga k (by omega) hl1 (lim_ev hM))
    have HLB := hid (lim_ga k (by omega) hl3 (lim_od hM))
    have HE : Hid (ga (k + 1) c = un (ga k (ev c)) (ga k (od c))) := rfl
    have EE : Hid (ev c = mkL (2 ^ k) (evE c)) := by show mkL _ _ = _; rw [hl2]; rfl
    have EO : Hid (od c = mkL (2 ^ k) (odE c)) := by show mkL _ _ = _; rw [hl2]; rfl
    have hne : c ≠ [] := by intro e; rw [e, h2k] at hl; have := Nat.one_le_two_pow (n := k); simp at hl; omega
    rw [h2k]
    rw [h2k] at hl
    have h00 := hid (HK.new w)
    obtain ⟨a, cap, rfl, hc⟩ := h
    obtain ⟨b, off, rfl, hbl, hcell⟩ := hc hne
    have HC := hid hcell
    rw [hl] at HC ⊢
    have h16 : 2 ^ k ≤ 8 ∧ 1 ≤ 2 ^ k := by
      rcases k with _ | _ | _ | _ | k
      · decide
      · decide
      · decide
      · decide
      · omega
    clear ih hM hB hl hl2 h2k hl1 hl3 hc hcell hne
    have HUn := hid (fun W va vb (ha : Sl .i64 W va (ga k (ev c))) (hb : Sl .i64 W vb (ga k (od c))) => l6Unite_calls va vb _ _ (bG k M) W ha hb (by rw [HlA.out]; exact hsz) (by rw [HlA.out, HlB.out]) HLA.out HLB.out hGk)
    rw [HlA.out] at HUn
    clear hsz hGk HLA HLB h0
    generalize ga (k + 1) c = R at *
    generalize ga k (ev c) = A at *
    generalize ga k (od c) = B at *
    generalize 2 ^ k = m at *
    obtain ⟨m8, m1⟩ := h16
    have hn1 : ((2 * m : Nat) : Int) ≠ 1 := by omega
    generalize h2m : 2 * m = n at *
    have H2m := hid h2m
    have hn16 : n ≤ 16 := by omega
    clear h2m
    have hnb : ((n : Int) == 1) = false := by simpa using hn1
    go_enter Tryd.func72, Tryd.ntmps72
    go_wp2_with fail
    go_loopw [3, 4, 5] (fun s d i wq => ∃ j p gs cs gd cd : Nat, i = .int .i64 (p : Int) ∧ Hid (p = 2 * j) ∧ s = .slice (some ⟨gs, 0, none⟩) j cs ∧ d = .slice (some ⟨gd, 0, none⟩) j cd ∧ j ≤ m ∧ Hid (HK w j gs cs gd cd (mkL j (evE c)) (mkL j (odE c)) wq)) (fun _ _ i _ => 20 - (intOf i).toNat)
    case atStart => exact ⟨0, 0, _, _, _, _, rfl, rfl, rfl, rfl, Nat.zero_le _, h00.out⟩
    case round =>
      obtain ⟨j, p, gs, cs, gd, cd, rfl, Hp, rfl, rfl, hj, hK⟩ := hrel
      clear h00
      have h2m := H2m.out
      have hp := Hp.out
      by_cases hlt : j < m
      · have hpn : (p : Int) + 1 < (n : Int) := by omega
        have hpn' : p + 1 < n := by omega
        have c1 := (hK.out.b.cell (p := ⟨b, off + p, none⟩) hbl).trans (HC.out p (by omega))
        have c2 := (hK.out.b.cell (p := ⟨b, off + (p + 1), none⟩) hbl).trans (HC.out (p + 1) (by omega))
        have ES1 := hid (mkL_succ j (evE c))
        have ED1 := hid (mkL_succ j (odE c))
        have e1 : c.getD p 0 = evE c j := by unfold evE; rw [hp]
        have e2 : c.getD (p + 1) 0 = odE c j := by unfold odE; rw [hp]
        rw [e1] at c1
        rw [e2] at c2
        have hbs := blk_of hK.out.s
        have hbd := blk_of hK.out.d
        have hne := hK.out.ne
        have hsw := hK.out.b.size
        have Hyl : Hid ((mkL j (evE c)).length = j ∧ (mkL j (odE c)).length = j) := ⟨mkL_len _ _, mkL_len _ _⟩
        clear hp h2m e1 e2
        generalize evE c j = xs at *
        generalize odE c j = xd at *
        have HO1 := hid (hK.out.s.alloc (.cells #[.int .i64 xs] 2))
        have HQ1 := hid (hK.out.d.alloc (.cells #[.int .i64 xs] 2))
        have HL1 := hid (bmore hK.out.b (.cells #[.int .i64 xs] 2))
        clear hK
        go_wp2_with (at_builtin; refine wpList_append_ints _ rfl _ _ rfl w.heap.size _ (mkL j (evE c)) rfl HO1.out _ [xs] rfl (sl_lit _ _ _ _ _ _ rfl rfl) (by simp) ?c1 ?c2 ?_)
        case c1 => rw [Hyl.out.1]; simp only [List.length_singleton]; omega
        case c2 => simp; omega
        intro g5 cap5 n5 w5 hn5 ho5 hg5 hat5
        have Hn5 : Hid (n5 = j + 1) := by show _ = _; have := Hyl.out.1; first | omega | (simp only [List.length_append, List.length_singleton] at hn5; omega)
        have hne5 : g5 ≠ gd := by
          rcases hat5 with h | h
          · have : gs = g5 := by simpa [Value.ownBlock] using h
            omega
          · omega
        have HD5 := hid (Ow.keptNe HQ1.out hg5 (fun j e => by simp [Value.ownBlock] at e ⊢; omega))
        have hL5 := HL1.out.trans (below_of_grown hg5 (by simp; omega) (fun i e => (HO1.out.block i e).1))
        have HL5 := hid hL5
        have HS5 := hid ho5
        have hs5 : wr.heap.size + 1 ≤ w5.heap.size := by have := hg5.size; simpa using this
        have hb5 := blk_of HS5.out
        have c3 : w5.cell? ⟨b, off + (p + 1), none⟩ = some (.int .i64 xd) := by
          have h1 := (HL1.out.cell (p := ⟨b, off + (p + 1), none⟩) hbl)
          have h2 := (hL5.cell (p := ⟨b, off + (p + 1), none⟩) hbl)
          have h3 : (wr.alloc (.cells #[.int .i64 xs] 2)).cell? ⟨b, off + (p + 1), none⟩ = wr.cell? ⟨b, off + (p + 1), none⟩ := ((Below.refl wr.heap.size wr).alloc (Nat.le_refl _) _).cell (p := ⟨b, off + (p + 1), none⟩) (show b < wr.heap.size by omega)
          rw [h2, ← h1, h3, c2]
        clear hn5 ho5 hg5 hat5 HO1 HQ1 HL1 hL5 c1 c2
        have HO6 := hid (HD5.out.alloc (.cells #[.int .i64 xd] 2))
        have HQ6 := hid (HS5.out.alloc (.cells #[.int .i64 xd] 2))
        have HL6 := hid (bmore HL5.out (.cells #[.int .i64 xd] 2))
        clear HD5 HS5 HL5
        go_wp2_with (at_builtin; refine wpList_append_ints _ rfl _ _ rfl w.heap.size _ (mkL j (odE c)) rfl HO6.out _ [xd] rfl (sl_lit _ _ _ _ _ _ rfl rfl) (by simp) ?c1 ?c2 ?_)
        case c1 => rw [Hyl.out.2]; simp only [List.length_singleton]; omega
        case c2 => simp; omega
        intro g7 cap7 n7 w7 hn7 ho7 hg7 hat7
        have Hn7 : Hid (n7 = j + 1) := by show _ = _; have := Hyl.out.2; first | omega | (simp only [List.length_append, List.length_singleton] at hn7; omega)
        have hne7 : g5 ≠ g7 := by
          rcases hat7 with h | h
          · have : gd = g7 := by simpa [Value.ownBlock] using h
            omega
          · omega
        have HK7 : Hid (HK w (j + 1) g5 cap5 g7 cap7 (mkL (j + 1) (evE c)) (mkL (j + 1) (odE c)) w7) := by
          have hS7 := Ow.keptNe HQ6.out hg7 (fun j e => by simp [Value.ownBlock] at e ⊢; omega)
          have hL7 := HL6.out.trans (below_of_grown hg7 (by simp; omega) (fun i e => (HO6.out.block i e).1))
          rw [Hn5.out] at hS7
          rw [Hn7.out] at ho7
          refine ⟨hne7, ?_, ?_, hL7⟩
          · rw [ES1.out]; exact hS7
          · rw [ED1.out]; exact ho7
        have e5 := Hn5.out
        have e7 := Hn7.out
        subst e5 e7
        clear hn7 ho7 hg7 hat7 HO6 HQ6 HL6 Hn5 Hn7
        go_wp2
        go_roundw
        case rel => exact ⟨j + 1, p + 2, g5, cap5, g7, cap7, by go_num, by have := Hp.out; show _ = _; omega, rfl, rfl, by omega, HK7.out⟩
        case measure => simp [intOf]; omega
      · obtain rfl : j = m := by omega
        rw [← EE.out, ← EO.out] at hK
        have hnot : (n : Int) ≤ (p : Int) + 1 := by omega
        have hpb : (p : Int) ≤ 16 := by omega
        clear h2m hp
        go_wp2_with fail
        refine (HIE.out _ _ hK.out.s.sl).mono ?_
        rintro e w2 ⟨ga', ca, rfl, ho2, hb2⟩
        have HA2 := hid ho2
        have HL2 := hid (bthen hK.out.b hb2)
        have HD2 := hid (hK.out.d.later hb2)
        have hw1 := hK.out.b.size
        clear ho2 hb2 hK HIE
        go_wp2_with fail
        refine (HIO.out _ _ HD2.out.sl).mono ?_
        rintro e w3 ⟨gb', cb, rfl, ho3, hb3⟩
        have HA3 := hid (HA2.out.later hb3)
        have HB3 := hid ho3
        have HL3 := hid (bthen HL2.out hb3)
        have hw3 := HL3.out.size
        clear ho3 hb3 HA2 HL2 HD2 HIO
        go_wp2_with fail
        refine (HUn.out _ _ _ HA3.out.sl HB3.out.sl).mono ?_
        rintro e w4 ⟨gu, rfl, ho4, hb4⟩
        have HO4 := hid (ho4.mono hw3)
        have HL4 := hid (bthen HL3.out hb4)
        clear ho4 hb4
        go_wp2
        go_ret
        exact ⟨gu, _, rfl, by rw [HE.out]; exact HO4.out, HL4.out⟩
end Go.Proofs.YtbakmphopgkpmaaDoor.GatS

namespace Go.Proofs.YtbakmphopgkpmaaDoor.BloS
open Go.ChangeShapes Go.WideShapes Go.ChangeAt Go.RowKit Go.Proofs.YtbakmphopgkpmaaDoor.Num Go.Proofs.YtbakmphopgkpmaaDoor.Sli Go.Proofs.YtbakmphopgkpmaaDoor.App Go.Proofs.YtbakmphopgkpmaaDoor.Div Go.Proofs.YtbakmphopgkpmaaDoor.Samp Go.Proofs.YtbakmphopgkpmaaDoor.Blk Go.Proofs.YtbakmphopgkpmaaDoor.TurM Go.Proofs.YtbakmphopgkpmaaDoor.HalM Go.Proofs.YtbakmphopgkpmaaDoor.IntL Go.Proofs.YtbakmphopgkpmaaDoor.IntA Go.Proofs.YtbakmphopgkpmaaDoor.HalS Go.Proofs.YtbakmphopgkpmaaDoor.UniS Go.Proofs.YtbakmphopgkpmaaDoor.SprS Go.Proofs.YtbakmphopgkpmaaDoor.GatS

theorem ow_nil (base : Nat) (w : World) : OwI base w (.slice none 0 0) [] := ⟨rfl, .inl ⟨rfl, rfl⟩⟩
/-- What lies above block R stays while R turns. -/
theorem Ow.over {k : IntKind} {t base R : Nat} {w w' : World} {v : Value} {ys : List Int} (h : Ow k t base w v ys) (hR : R < base) (hg : w.grownBy w' (some R)) : Ow k t base w' v ys :=
  h.kept hg (fun j e => by cases e; exact hR)
theorem grown_set2 (w : World) (R : Nat) (x y : Value) : w.grownBy ((w.setCell ⟨R, 0, none⟩ x).setCell ⟨R, 1, none⟩ y) (some R) := grown_same (grown_set w R 0 x) (grown_set _ R 1 y)
theorem grown_set3 (w : World) (R : Nat) (x y z : Value) : w.grownBy (((w.setCell ⟨R, 0, none⟩ x).setCell ⟨R, 1, none⟩ y).setCell ⟨R, 2, none⟩ z) (some R) := grown_same (grown_set2 w R x y) (grown_set _ R 2 z)
theorem sz_len {n : Nat} : (szF (n : Int) = 0) ↔ is3 n = true := by
  unfold szF is3
  by_cases h : n = 4 ∨ n = 8 ∨ n = 16
  · rw [if_pos (by omega), decide_eq_true h]; simp
  · rw [if_neg (by omega), decide_eq_false h]; simp

/-- The code of a block's list. -/
def akC (M : Int) (l : List Int) : Int := if is3 l.length = true then (if l.all (inB (-M) M) = true then 0 else 3) else 2
theorem l6Ask_calls (v : Value) (l : List Int) (M : Int) (w : World) (h : Sl .i64 w v l) (hm : l.length ≤ 1048576) (h0 : 0 ≤ M) (h1 : M ≤ 1000000000) :
    Calls Tryd.prog 71 #[v, .int .i64 M] w fun e w' => e = .returned (.int .i64 (akC M l)) ∧ w' = w := by
  have HS := hid (specSizeFault_calls (l.length : Int))
  have HA := hid (fun W (hW : Sl .i64 W v l) => all_calls v l (-M) M W hW hm)
  have Hs := hid h
  obtain ⟨a, cap, rfl, _⟩ := h
  cases h3 : is3 l.length
  · have hz : szF (l.length : Int) = 3 := by
      rcases sz_03 (l.length : Int) with e | e
      · rw [sz_len.1 e] at h3; cases h3
      · exact e
    have HE : Hid (akC M l = 2) := by show _ = _; unfold akC; rw [if_neg (by rw [h3]; simp)]
    rw [hz] at HS
    clear hz h3 HA
    go_enter Tryd.func71, Tryd.ntmps71
    go_wp2_with (go_at_call 81; refine (HS.out _).mono ?_; rintro e w' ⟨rfl, rfl⟩)
    go_ret
    exact ⟨by rw [HE.out]; rfl, rfl⟩
  · have hz : szF (l.length : Int) = 0 := sz_len.2 h3
    rw [hz] at HS
    cases ha : l.all (inB (-M) M)
    · have HE : Hid (akC M l = 3) := by show _ = _; unfold akC; rw [if_pos h3, if_neg (by rw [ha]; simp)]
      rw [ha] at HA
      clear hz h3 ha
      go_enter Tryd.func71, Tryd.ntmps71
      go_wp2_with (first | (go_at_call 81; refine (HS.out _).mono ?_; rintro e w' ⟨rfl, rfl⟩) | (go_at_call 106; refine (HA.out _ Hs.out).mono ?_; rintro e w' ⟨rfl, rfl⟩))
      go_ret
      exact ⟨by rw [HE.out]; rfl, rfl⟩
    · have HE : Hid (akC M l = 0) := by show _ = _; unfold akC; rw [if_pos h3, if_pos ha]
      rw [ha] at HA
      clear hz h3 ha
      go_enter Tryd.func71, Tryd.ntmps71
      go_wp2_with (first | (go_at_call 81; refine (HS.out _).mono ?_; rintro e w' ⟨rfl, rfl⟩) | (go_at_call 106; refine (HA.out _ Hs.out).mono ?_; rintro e w' ⟨rfl, rfl⟩))
      go_ret
      exact ⟨by rw [HE.out]; rfl, rfl⟩
theorem ask_sb (l : List Int) : akC 65536 l = sbC l := rfl
theorem ask_gb (l : List Int) : akC 16777216 l = gbC l := rfl
set_option maxHeartbeats 1000000 in
theorem specSpreadBlock_calls (v : Value) (l : List Int) (w : World) (h : Sl .i64 w v l) (hm : l.length ≤ 1048576) :
    Calls Tryd.prog 61 #[v] w fun e w' => ∃ u, e = .returned (.agg #[.int .i64 (sbC l), u]) ∧ OwI w.heap.size w' u (sbL l) ∧ Below w.heap.size w w' := by
  have HA := hid (fun W (hW : Sl .i64 W v l) => l6Ask_calls v l 65536 W hW hm (by omega) (by omega))
  rw [ask_sb] at HA
  have Hs := hid (h.later (bmore (Below.refl _ w) (.cells #[.int .i64 0, .slice none 0 0] 35)))
  obtain ⟨a, cap, rfl, hc⟩ := h
  by_cases hc0 : sbC l = 0
  · obtain ⟨h3, hlim⟩ := sb_ok hc0
    obtain ⟨e1, e2⟩ := dep_pow (is3_sz h3)
    have HG := hid (fun W (hW : Sl .i64 W (.slice a l.length cap) l) => l6Spread_calls (dep l.length) _ l 65536 W e2 hW e1 hlim (by rcases is3_sz h3 with e | e | e | e <;> rw [e] <;> decide))
    have HL : Hid (sbL l = sp (dep l.length) l) := if_pos hc0
    rw [hc0] at HA
    have HC := hid hc0
    clear hc0 h3 hlim e1 e2 hc
    rw [HC.out]
    generalize 2 ^ dep l.length = q at *
    go_enter Tryd.func61, Tryd.ntmps61
    go_wp2_with (first | (go_at_call 71; refine (HA.out _ Hs.out).mono ?_; rintro e w' ⟨rfl, rfl⟩) | fail)
    refine (HG.out _ Hs.out).mono ?_
    rintro e w1 ⟨g, cp, rfl, ho, hb⟩
    have HB := hid ((Blk.new w #[.int .i64 0, .slice none 0 0] 35).later hb)
    have HLb := hid (bthen (bmore (Below.refl _ w) _) hb)
    have HO := hid (App.Ow.mono (Ow.over ho (by simp) (grown_set2 w1 w.heap.size (.int .i64 0) (.slice (some ⟨g, 0, none⟩) q cp))) (show w.heap.size ≤ _ by simp))
    obtain ⟨c0, c1, f0, f1⟩ := HB.out.two
    clear ho hb HG
    go_wp2
    exact bodyPost_ret (v := .agg #[.int .i64 0, .slice (some ⟨g, 0, none⟩) q cp]) (by simp [results, Tryd.results61, go_sem, c0, c1]) rfl ⟨_, rfl, by rw [HL.out]; exact HO.out, below_cell (below_cell HLb.out (Nat.le_refl _) _ _) (Nat.le_refl _) _ _⟩
  · have HL : Hid (sbL l = []) := if_neg hc0
    have hcb : (sbC l != 0) = true := by simpa using hc0
    clear hc0 hc
    generalize sbC l = c at *
    go_enter Tryd.func61, Tryd.ntmps61
    go_wp2_with (first | (go_at_call 71; refine (HA.out _ Hs.out).mono ?_; rintro e w' ⟨rfl, rfl⟩) | fail)
    exact bodyPost_ret (v := .agg #[.int .i64 c, .slice none 0 0]) (by simp [results, Tryd.results61, go_sem]) rfl ⟨_, rfl, by rw [HL.out]; exact ow_nil _ _, bmore (Below.refl _ _) _⟩
set_option maxHeartbeats 1000000 in
theorem specGatherBlock_calls (v : Value) (l : List Int) (w : World) (h : Sl .i64 w v l) (hm : l.length ≤ 1048576) :
    Calls Tryd.prog 25 #[v] w fun e w' => ∃ u, e = .returned (.agg #[.int .i64 (gbC l), u]) ∧ OwI w.heap.size w' u (gbL l) ∧ Below w.heap.size w w' := by
  have HA := hid (fun W (hW : Sl .i64 W v l) => l6Ask_calls v l 16777216 W hW hm (by omega) (by omega))
  rw [ask_gb] at HA
  have Hs := hid (h.later (bmore (Below.refl _ w) (.cells #[.int .i64 0, .slice none 0 0] 35)))
  obtain ⟨a, cap, rfl, hc⟩ := h
  by_cases hc0 : gbC l = 0
  · obtain ⟨h3, hlim⟩ := gb_ok hc0
    obtain ⟨e1, e2⟩ := dep_pow (is3_sz h3)
    have HG := hid (fun W (hW : Sl .i64 W (.slice a l.length cap) l) => l6Gather_calls (dep l.length) _ l 16777216 W e2 hW e1 hlim (by rcases is3_sz h3 with e | e | e | e <;> rw [e] <;> decide))
    have HL : Hid (gbL l = ga (dep l.length) l) := if_pos hc0
    rw [hc0] at HA
    have HC := hid hc0
    clear hc0 h3 hlim e1 e2 hc
    rw [HC.out]
    generalize 2 ^ dep l.length = q at *
    go_enter Tryd.func25, Tryd.ntmps25
    go_wp2_with (first | (go_at_call 71; refine (HA.out _ Hs.out).mono ?_; rintro e w' ⟨rfl, rfl⟩) | fail)
    refine (HG.out _ Hs.out).mono ?_
    rintro e w1 ⟨g, cp, rfl, ho, hb⟩
    have HB := hid ((Blk.new w #[.int .i64 0, .slice none 0 0] 35).later hb)
    have HLb := hid (bthen (bmore (Below.refl _ w) _) hb)
    have HO := hid (App.Ow.mono (Ow.over ho (by simp) (grown_set2 w1 w.heap.size (.int .i64 0) (.slice (some ⟨g, 0, none⟩) q cp))) (show w.heap.size ≤ _ by simp))
    obtain ⟨c0, c1, f0, f1⟩ := HB.out.two
    clear ho hb HG
    go_wp2
    exact bodyPost_ret (v := .agg #[.int .i64 0, .slice (some ⟨g, 0, none⟩) q cp]) (by simp [results, Tryd.results25, go_sem, c0, c1]) rfl ⟨_, rfl, by rw [HL.out]; exact HO.out, below_cell (below_cell HLb.out (Nat.le_refl _) _ _) (Nat.le_refl _) _ _⟩
  · have HL : Hid (gbL l = []) := if_neg hc0
    have hcb : (gbC l != 0) = true := by simpa using hc0
    clear hc0 hc
    generalize gbC l = c at *
    go_enter Tryd.func25, Tryd.ntmps25
    go_wp2_with (first | (go_at_call 71; refine (HA.out _ Hs.out).mono ?_; rintro e w' ⟨rfl, rfl⟩) | fail)
    exact bodyPost_ret (v := .agg #[.int .i64 c, .slice none 0 0]) (by simp [results, Tryd.results25, go_sem]) rfl ⟨_, rfl, by rw [HL.out]; exact ow_nil _ _, bmore (Below.refl _ _) _⟩
end Go.Proofs.YtbakmphopgkpmaaDoor.BloS
