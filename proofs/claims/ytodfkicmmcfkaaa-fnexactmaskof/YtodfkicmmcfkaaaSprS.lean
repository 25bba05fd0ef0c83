/- The model's coefficients of a list, and the list of coefficients. Conditions: 1, 2, 4, 8 or 16 numbers, not too great. -/
import Derived.Test.YtodfkicmmcfkaaaUniS
import Derived.Maps.AppendAt
namespace Go.Proofs.Ytodfkicmmcfkaaa.SprS
open Go.ChangeShapes Go.WideShapes Go.ChangeAt Go.RowKit Go.Proofs.Ytodfkicmmcfkaaa.Num Go.Proofs.Ytodfkicmmcfkaaa.Sli Go.Proofs.Ytodfkicmmcfkaaa.App Go.Proofs.Ytodfkicmmcfkaaa.Div Go.Proofs.Ytodfkicmmcfkaaa.TurM Go.Proofs.Ytodfkicmmcfkaaa.HalM Go.Proofs.Ytodfkicmmcfkaaa.IntL Go.Proofs.Ytodfkicmmcfkaaa.IntA Go.Proofs.Ytodfkicmmcfkaaa.HalS Go.Proofs.Ytodfkicmmcfkaaa.UniS

theorem le_bS : ∀ (k : Nat) {M : Int}, 0 ≤ M → M ≤ bS k M
  | 0, _, _ => Int.le_refl _
  | k + 1, M, h => Int.le_trans (show M ≤ 3 * M + 3 by omega) (le_bS k (by omega))
theorem own_succ {w : World} {base : Nat} {e : TypeId} {v : Value} {n : Nat} {xs : List Value} (h : w.ownsRow base e 1 v (n + 1) xs) : ∃ g c, v = .slice (some ⟨g, 0, none⟩) (n + 1) c := by
  rcases h.2 with ⟨_, h0⟩ | ⟨g, cap, _, rfl, _⟩
  · omega
  · exact ⟨g, cap, rfl⟩
/-- Two numbers are appended. -/
theorem app_two {base : Nat} {W : World} {u : Value} {xs : List Int} {x y : Int} (ty : TypeId) (h : OwI base W u xs) (hbase : base ≤ W.heap.size) (hlen : xs.length ≤ 100000) :
    ∃ gc cc w1, (Builtin.append_ #[24, 24] ty #[u, .slice (some ⟨W.heap.size, 0, none⟩) 2 2]).run Try.prog (W.alloc (.cells #[.int .i64 x, .int .i64 y] 2)) = .ok (.slice (some ⟨gc, 0, none⟩) (xs.length + 2) cc) w1 ∧
      OwI base w1 (.slice (some ⟨gc, 0, none⟩) (xs.length + 2) cc) (xs ++ [x, y]) ∧ (W.alloc (.cells #[.int .i64 x, .int .i64 y] 2)).grownBy w1 u.ownBlock ∧ (u.ownBlock = some gc ∨ gc = W.heap.size + 1) := by
  obtain ⟨i0, hi, hz0, hz1, hz2⟩ := info_parts infoI
  have h' : W.ownsRow base 2 1 u xs.length (xs.map (Value.int .i64)) := h
  obtain ⟨v', w', hrun, hown, hg, _, hbl⟩ := run_append_own_at (W.alloc (.cells #[.int .i64 x, .int .i64 y] 2)) base 24 ty 2 i0 (.int .i64 0) 1 8 Try.underlying24 hi hz0 hz1 hz2 rfl (by decide) u xs.length (xs.map (Value.int .i64)) (h'.alloc _) ⟨W.heap.size, 0, none⟩ 2 2 [.int .i64 x, .int .i64 y] rfl
    (by intro j z hj; match j, hj with
      | 0, hj => simp at hj; subst hj; simp [Addr.add]
      | 1, hj => simp at hj; subst hj; simp [Addr.add]
      | j + 2, hj => simp at hj) (by simp [Value.oneCell']) (by rw [show maxLen = 9223372036854775807 by decide]; omega) (by omega) (by simp; omega)
  obtain ⟨gc, cc, rfl⟩ := own_succ hown
  refine ⟨gc, cc, w', hrun, ?_, hg, ?_⟩
  rotate_left
  · rcases hbl with h1 | h1
    · left; rw [← h1]; rfl
    · right; simpa [Value.ownBlock] using h1
  show w'.ownsRow base 2 1 _ (xs ++ [x, y]).length ((xs ++ [x, y]).map (Value.int .i64))
  rw [List.length_append, List.map_append]
  exact hown
/-- Two lists of m numbers that are read, and one that grows. -/
structure SK (w : World) (m ga ca gb cb n go co : Nat) (A B O : List Int) (W : World) : Prop where
  a : OwI w.heap.size W (.slice (some ⟨ga, 0, none⟩) m ca) A
  b : OwI w.heap.size W (.slice (some ⟨gb, 0, none⟩) m cb) B
  o : OwI w.heap.size W (.slice (some ⟨go, 0, none⟩) n co) O
  na : ga ≠ go
  nb : gb ≠ go
  l : Below w.heap.size w W
theorem SK.drew {w : World} {m ga ca gb cb n go co : Nat} {A B O : List Int} {W : World} (h : SK w m ga ca gb cb n go co A B O W) : SK w m ga ca gb cb n go co A B O W.drew := ⟨h.a, h.b, h.o, h.na, h.nb, h.l.drew⟩
theorem inter_step (a b : List Int) (k : Nat) : mkL (2 * (k + 1)) (inE a b) = mkL (2 * k) (inE a b) ++ [a.getD k 0, b.getD k 0] := by
  rw [show 2 * (k + 1) = 2 * k + 1 + 1 by omega, mkL_succ, mkL_succ, List.append_assoc]
  have e1 : inE a b (2 * k) = a.getD k 0 := by unfold inE; rw [if_pos (by omega), show 2 * k / 2 = k by omega]
  have e2 : inE a b (2 * k + 1) = b.getD k 0 := by unfold inE; rw [if_neg (by omega), show (2 * k + 1) / 2 = k by omega]
  rw [e1, e2]; rfl

attribute [-go_sem] Builtin.append_
set_option maxHeartbeats 1000000 in
theorem l6Spread_calls : ∀ (k : Nat) (v : Value) (l : List Int) (M : Int) (w : World), k ≤ 4 → Sl .i64 w v l → l.length = 2 ^ k → lim M l → bS k M ≤ 34359738368 →
    Calls Try.prog 69 #[v] w fun e w' => ∃ g cap, e = .returned (.slice (some ⟨g, 0, none⟩) (2 ^ k : Nat) cap) ∧ OwI w.heap.size w' (.slice (some ⟨g, 0, none⟩) (2 ^ k) cap) (sp k l) ∧ Below w.heap.size w w' := by
  intro k
  induction k with
  | zero =>
    intro v l M w _ h hl _ _
    have HI := hid (ints_calls v l w h (by omega))
    obtain ⟨a, cap, rfl, _⟩ := h
    have h1 : l.length = 1 := hl
    rw [h1] at HI
    rw [h1]
    clear hl h1
    go_enter Try.func69, Try.ntmps69
    go_wp2_with fail
    refine HI.out.mono ?_
    rintro e w1 ⟨g, c, rfl, ho, hb⟩
    have HO := hid ho
    have HB := hid hb
    clear ho hb HI
    go_wp2
    go_ret
    exact ⟨g, c, rfl, HO.out, HB.out⟩
  | succ k ih =>
    intro v l M w hk h hl hM hB
    have h0 := hM.pos
    have hsz : sz4 l.length := by rw [hl]; exact sz4_pow hk
    have h2k : 2 ^ (k + 1) = 2 * 2 ^ k := by rw [Nat.pow_succ]; omega
    have hl2 : l.length / 2 = 2 ^ k := by rw [hl, h2k]; omega
    have HH := hid (l6Halve_calls v l M w h hsz hM (by have := le_bS (k + 1) h0; omega))
    have HlS := hid (show (hS l).length = 2 ^ k by rw [hS_len, hl2])
    have HlD := hid (show (hD l).length = 2 ^ k by rw [hD_len, hl2])
    have HIS := hid (fun W v' (hv : Sl .i64 W v' (hS l)) => ih v' (hS l) M W (by omega) hv HlS.out (lim_hS hM) (Int.le_trans (bS_mono k (by omega)) hB))
    have HID := hid (fun W v' (hv : Sl .i64 W v' (hD l)) => ih v' (hD l) (3 * M + 3) W (by omega) hv HlD.out (lim_hD hsz hM) hB)
    have HlA := hid (sp_len k (hS l) HlS.out)
    have HlB := hid (sp_len k (hD l) HlD.out)
    have HE : Hid (sp (k + 1) l = mkL (2 * 2 ^ k) (inE (sp k (hS l)) (sp k (hD l)))) := by show inter _ _ = _; unfold inter; rw [HlA.out]
    rw [hl2] at HH
    rw [h2k]
    rw [h2k] at hl
    obtain ⟨a, cap, rfl, _⟩ := h
    rw [hl] at HH ⊢
    have h16 : 2 ^ k ≤ 8 ∧ 1 ≤ 2 ^ k := by
      rcases k with _ | _ | _ | _ | k
      · decide
      · decide
      · decide
      · decide
      · omega
    clear ih hsz hM hB hl hl2 h2k HlS HlD
    generalize sp (k + 1) l = R at *
    generalize sp k (hS l) = A at *
    generalize sp k (hD l) = B at *
    generalize hS l = S at *
    generalize hD l = D at *
    generalize 2 ^ k = m at *
    obtain ⟨m8, m1⟩ := h16
    have hn1 : ((2 * m : Nat) : Int) ≠ 1 := by omega
    generalize h2m : 2 * m = n at *
    have H2m := hid h2m
    have hn16 : n ≤ 16 := by omega
    clear h2m
    have hnb : ((n : Int) == 1) = false := by simpa using hn1
    go_enter Try.func69, Try.ntmps69
    go_wp2_with fail
    refine HH.out.mono ?_
    rintro e w1 ⟨gs, cs, gd, cd, rfl, hk1⟩
    have HK1 := hid hk1
    clear hk1 HH
    go_wp2_with fail
    refine (HIS.out _ _ HK1.out.s.sl).mono ?_
    rintro e w2 ⟨ga, ca, rfl, ho2, hb2⟩
    have HA2 := hid ho2
    have HL2 := hid (bthen HK1.out.b hb2)
    have HD2 := hid (HK1.out.d.later hb2)
    have hw1 := HK1.out.b.size
    clear ho2 hb2 HK1 HIS
    go_wp2_with fail
    refine (HID.out _ _ HD2.out.sl).mono ?_
    rintro e w3 ⟨gb, cb, rfl, ho3, hb3⟩
    have hz2 := HL2.out.size
    have hga := blk_of HA2.out
    have hgb := blk_of ho3
    have HK3 : Hid (SK w m ga ca gb cb 0 w3.heap.size 0 A B (mkL (2 * 0) (inE A B)) (w3.alloc (.cells #[] 2))) :=
      ⟨((HA2.out.mono hw1).later hb3).alloc _, (ho3.mono hz2).alloc _, ow_new .i64 2 w.heap.size w3 (by have := hb3.size; omega), by have := hb3.size; omega, by omega, bmore (bthen HL2.out hb3) _⟩
    clear ho3 hb3 HA2 HL2 HD2 HID hga hgb hz2 hw1
    go_wp2_with fail
    generalize w3.heap.size = g0 at *
    go_loopw [7, 8] (fun o i wq => ∃ j go co : Nat, i = .int .i64 (j : Int) ∧ o = .slice (some ⟨go, 0, none⟩) (2 * j : Nat) co ∧ j ≤ m ∧ Hid (SK w m ga ca gb cb (2 * j) go co A B (mkL (2 * j) (inE A B)) wq)) (fun _ i _ => m - (intOf i).toNat)
    case atStart => exact ⟨0, g0, 0, rfl, rfl, Nat.zero_le _, HK3.out⟩
    case round =>
      obtain ⟨j, go, co, rfl, rfl, hj, hK⟩ := hrel
      clear HK3
      by_cases hlt : j < m
      · obtain ⟨c1, _⟩ := hK.out.a.cellAt HlA.out.symm j (by rw [HlA.out]; exact hlt)
        obtain ⟨c2, _⟩ := hK.out.b.cellAt HlB.out.symm j (by rw [HlB.out]; exact hlt)
        have hstep := hid (inter_step A B j)
        have hsw := hK.out.l.size
        have hlo : (mkL (2 * j) (inE A B)).length = 2 * j := mkL_len _ _
        have hga := blk_of hK.out.a
        have hgb := blk_of hK.out.b
        have hna := hK.out.na
        have hnb' := hK.out.nb
        generalize A.getD j 0 = x at *
        generalize B.getD j 0 = y at *
        have HOd : OwI w.heap.size wr.drew (.slice (some ⟨go, 0, none⟩) (2 * j) co) (mkL (2 * j) (inE A B)) := hK.out.o
        obtain ⟨gc, cc, w5, hrun, ho5, hg5, hat5⟩ := app_two (W := wr.drew) (x := x) (y := y) 24 HOd (show w.heap.size ≤ wr.heap.size from hsw) (by omega)
        rw [hlo] at hrun ho5
        replace hrun : (Builtin.append_ #[24, 24] 24 #[.slice (some ⟨go, 0, none⟩) (2 * j) co, .slice (some ⟨wr.heap.size, 0, none⟩) 2 2]).run Try.prog (wr.alloc (.cells #[.int .i64 x, .int .i64 y] 2)).drew = _ := hrun
        have a1 : (wr.alloc (.cells #[.int .i64 x, .int .i64 y] 2)).drew.cell? ⟨ga, j, none⟩ = some (.int .i64 x) := ((Below.refl wr.heap.size wr).alloc (Nat.le_refl _) _).cell (p := ⟨ga, j, none⟩) hga.2 |>.trans c1
        have a2 : (wr.alloc (.cells #[.int .i64 x, .int .i64 y] 2)).drew.cell? ⟨gb, j, none⟩ = some (.int .i64 y) := ((Below.refl wr.heap.size wr).alloc (Nat.le_refl _) _).cell (p := ⟨gb, j, none⟩) hgb.2 |>.trans c2
        have HK5 : Hid (SK w m ga ca gb cb (2 * (j + 1)) gc cc A B (mkL (2 * (j + 1)) (inE A B)) w5) := by
          have hgo : gc = go ∨ gc = wr.heap.size + 1 := by
            rcases hat5 with h | h
            · left; simpa [Value.ownBlock] using h.symm
            · right; exact h
          have hA5 := Ow.keptNe (hK.out.drew.a.alloc (.cells #[.int .i64 x, .int .i64 y] 2)) hg5 (fun i e => by simp [Value.ownBlock] at e ⊢; omega)
          have hB5 := Ow.keptNe (hK.out.drew.b.alloc (.cells #[.int .i64 x, .int .i64 y] 2)) hg5 (fun i e => by simp [Value.ownBlock] at e ⊢; omega)
          have hL5 := (bmore hK.out.drew.l (.cells #[.int .i64 x, .int .i64 y] 2)).trans (below_of_grown hg5 (by simp; omega) (fun i e => (HOd.block i e).1))
          refine ⟨hA5, hB5, ?_, by omega, by omega, hL5⟩
          rw [hstep.out, show 2 * (j + 1) = 2 * j + 2 by omega]
          exact ho5
        have b1 := HK5.out.a.cellAt HlA.out.symm j (by rw [HlA.out]; exact hlt)
        clear b1 ho5 hg5 hat5 HOd hK hlo hstep HE
        have hjm : (j : Int) < (m : Int) := by omega
        have hA0 : wr.drew.cell? ⟨ga, j, none⟩ = some (.int .i64 x) ∧ wr.drew.cell? ⟨gb, j, none⟩ = some (.int .i64 y) := ⟨c1, c2⟩
        go_wp2_with fail
        refine wp_region_noPanic ?_
        refine wp_region_held_drew (S := fun W => True) (by kernel_rfl) (by trivial) (fun hHeld => ?_)
        (refine wpAnyH_take (i := 0) (v := ?_) rfl (by kernel_rfl) (by kernel_rfl) (by kernel_rfl) (fun _ _ _ h => h) (Or.inl ⟨by rfl, ?_⟩) hHeld ?_; rotate_left; (intro w hSw; skip; (go_simp <;> with_reducible rfl)); simp only [List.getElem_toArray, List.getElem_cons_zero, Act.put, List.setIfInBounds_toArray, List.set_cons_zero, List.set_cons_succ])
        (refine wpAnyH_take (i := 1) (v := ?_) rfl (by kernel_rfl) (by kernel_rfl) (by kernel_rfl) (fun _ _ _ h => h) (Or.inl ⟨by rfl, ?_⟩) hHeld ?_; rotate_left; (intro w hSw; skip; (go_simp <;> with_reducible rfl)); simp only [List.getElem_toArray, List.getElem_cons_zero, List.getElem_cons_succ, Act.put, List.setIfInBounds_toArray, List.set_cons_zero, List.set_cons_succ])
        (refine wpAnyH_take (i := 2) (v := ?_) rfl (by kernel_rfl) (by kernel_rfl) (by kernel_rfl) (fun _ _ _ h => h) (Or.inl ⟨by rfl, ?_⟩) hHeld ?_; rotate_left; (intro w hSw; skip; (go_simp <;> with_reducible rfl)); simp only [List.getElem_toArray, List.getElem_cons_zero, List.getElem_cons_succ, Act.put, List.setIfInBounds_toArray, List.set_cons_zero, List.set_cons_succ])
        (refine wpAnyH_take (i := 3) (v := ?_) rfl (by kernel_rfl) (by kernel_rfl) (by kernel_rfl) (fun _ _ _ h => h) (Or.inl ⟨by rfl, ?_⟩) hHeld ?_; rotate_left; (intro w hSw; skip; (go_simp <;> with_reducible rfl)); simp only [List.getElem_toArray, List.getElem_cons_zero, List.getElem_cons_succ, Act.put, List.setIfInBounds_toArray, List.set_cons_zero, List.set_cons_succ])
        (refine wpAnyH_take (i := 5) (v := ?_) rfl (by kernel_rfl) (by kernel_rfl) (by kernel_rfl) (fun _ _ _ h => h) (Or.inl ⟨by rfl, ?_⟩) hHeld ?_; rotate_left; (intro w hSw; skip; (go_simp <;> with_reducible rfl)); simp only [List.getElem_toArray, List.getElem_cons_zero, List.getElem_cons_succ, Act.put, List.setIfInBounds_toArray, List.set_cons_zero, List.set_cons_succ])
        (refine wpAnyH_take (i := 6) (v := ?_) rfl (by kernel_rfl) (by kernel_rfl) (by kernel_rfl) (fun _ _ _ h => h) (Or.inl ⟨by rfl, ?_⟩) hHeld ?_; rotate_left; (intro w hSw; skip; (go_simp <;> with_reducible rfl)); simp only [List.getElem_toArray, List.getElem_cons_zero, List.getElem_cons_succ, Act.put, List.setIfInBounds_toArray, List.set_cons_zero, List.set_cons_succ])
        (refine wpAnyH_take (i := 7) (v := ?_) rfl (by kernel_rfl) (by kernel_rfl) (by kernel_rfl) (fun _ _ _ h => h) (Or.inl ⟨by rfl, ?_⟩) hHeld ?_; rotate_left; (intro w hSw; skip; (go_simp <;> with_reducible rfl)); simp only [List.getElem_toArray, List.getElem_cons_zero, List.getElem_cons_succ, Act.put, List.setIfInBounds_toArray, List.set_cons_zero, List.set_cons_succ])
        refine wpAnyH_ready (rs := [4, 8]) (by kernel_rfl) (by simp) ?_
        refine (AllReadyH.cons rfl (fun K hK => ?_) (AllReadyH.cons rfl (fun K hK => ?_) AllReadyH.nil))
        · go_simp
          skip
          refine hK.out _ _ (by trivial) (fun hHeld => ?_)
          clear hK K
          try simp only [List.getElem_toArray, List.getElem_cons_zero, List.getElem_cons_succ, Act.put, List.setIfInBounds_toArray, List.set_cons_zero, List.set_cons_succ]
          refine wpAnyH_ready (rs := [8]) (by kernel_rfl) (by simp) ?_
          refine (AllReadyH.cons rfl (fun K hK => ?_) AllReadyH.nil)
          go_simp
          skip
          refine hK.out _ _ (by trivial) (fun hHeld => ?_)
          clear hK K
          try simp only [List.getElem_toArray, List.getElem_cons_zero, List.getElem_cons_succ, Act.put, List.setIfInBounds_toArray, List.set_cons_zero, List.set_cons_succ]
          refine wpAnyH_ready (rs := [9]) (by kernel_rfl) (by simp) ?_
          refine (AllReadyH.cons rfl (fun K hK => ?_) AllReadyH.nil)
          go_simp
          skip
          refine hK.out _ _ (by trivial) (fun hHeld => ?_)
          clear hK K
          try simp only [List.getElem_toArray, List.getElem_cons_zero, List.getElem_cons_succ, Act.put, List.setIfInBounds_toArray, List.set_cons_zero, List.set_cons_succ]
          refine wpAnyH_ready (rs := [10]) (by kernel_rfl) (by simp) ?_
          refine (AllReadyH.cons rfl (fun K hK => ?_) AllReadyH.nil)
          go_simp
          skip
          refine hK.out _ _ (by trivial) (fun hHeld => ?_)
          clear hK K
          try simp only [List.getElem_toArray, List.getElem_cons_zero, List.getElem_cons_succ, Act.put, List.setIfInBounds_toArray, List.set_cons_zero, List.set_cons_succ]
          (refine wpAnyH_take (i := 11) (v := ?_) rfl (by kernel_rfl) (by kernel_rfl) (by kernel_rfl) (fun _ _ _ h => h) (Or.inl ⟨by rfl, ?_⟩) hHeld ?_; rotate_left; (intro w hSw; skip; (go_simp <;> with_reducible rfl)); simp only [List.getElem_toArray, List.getElem_cons_zero, List.getElem_cons_succ, Act.put, List.setIfInBounds_toArray, List.set_cons_zero, List.set_cons_succ])
          refine wpAnyH_done (by kernel_rfl) ?_ _
          refine NoPanic.normal ?_
          go_wp2
          go_roundw
          case rel => exact ⟨j + 1, gc, cc, by go_num, rfl, by omega, HK5.out⟩
          case measure => simp [intOf]; omega
        · go_simp
          skip
          refine hK.out _ _ (by trivial) (fun hHeld => ?_)
          clear hK K
          try simp only [List.getElem_toArray, List.getElem_cons_zero, List.getElem_cons_succ, Act.put, List.setIfInBounds_toArray, List.set_cons_zero, List.set_cons_succ]
          refine wpAnyH_ready (rs := [4]) (by kernel_rfl) (by simp) ?_
          refine (AllReadyH.cons rfl (fun K hK => ?_) AllReadyH.nil)
          go_simp
          skip
          refine hK.out _ _ (by trivial) (fun hHeld => ?_)
          clear hK K
          try simp only [List.getElem_toArray, List.getElem_cons_zero, List.getElem_cons_succ, Act.put, List.setIfInBounds_toArray, List.set_cons_zero, List.set_cons_succ]
          refine wpAnyH_ready (rs := [9]) (by kernel_rfl) (by simp) ?_
          refine (AllReadyH.cons rfl (fun K hK => ?_) AllReadyH.nil)
          go_simp
          skip
          refine hK.out _ _ (by trivial) (fun hHeld => ?_)
          clear hK K
          try simp only [List.getElem_toArray, List.getElem_cons_zero, List.getElem_cons_succ, Act.put, List.setIfInBounds_toArray, List.set_cons_zero, List.set_cons_succ]
          refine wpAnyH_ready (rs := [10]) (by kernel_rfl) (by simp) ?_
          refine (AllReadyH.cons rfl (fun K hK => ?_) AllReadyH.nil)
          go_simp
          skip
          refine hK.out _ _ (by trivial) (fun hHeld => ?_)
          clear hK K
          try simp only [List.getElem_toArray, List.getElem_cons_zero, List.getElem_cons_succ, Act.put, List.setIfInBounds_toArray, List.set_cons_zero, List.set_cons_succ]
          (refine wpAnyH_take (i := 11) (v := ?_) rfl (by kernel_rfl) (by kernel_rfl) (by kernel_rfl) (fun _ _ _ h => h) (Or.inl ⟨by rfl, ?_⟩) hHeld ?_; rotate_left; (intro w hSw; skip; (go_simp <;> with_reducible rfl)); simp only [List.getElem_toArray, List.getElem_cons_zero, List.getElem_cons_succ, Act.put, List.setIfInBounds_toArray, List.set_cons_zero, List.set_cons_succ])
          refine wpAnyH_done (by kernel_rfl) ?_ _
          refine NoPanic.normal ?_
          go_wp2
          go_roundw
          case rel => exact ⟨j + 1, gc, cc, by go_num, rfl, by omega, HK5.out⟩
          case measure => simp [intOf]; omega
      · obtain rfl : j = m := by omega
        rw [H2m.out, ← HE.out] at hK
        go_wp2
        go_ret
        exact ⟨go, co, (by rw [← H2m.out]; rfl), hK.out.o, hK.out.l⟩
end Go.Proofs.Ytodfkicmmcfkaaa.SprS
