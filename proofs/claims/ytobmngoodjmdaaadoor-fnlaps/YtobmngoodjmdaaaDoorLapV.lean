/- The model plays a block. Conditions: a right synth and coefficients of its size. -/
import Derived.Test.YtobmngoodjmdaaaDoorLapU
namespace Go.Proofs.YtobmngoodjmdaaaDoor.LapV
open Go.ChangeShapes Go.WideShapes Go.ChangeAt Go.RowKit Go.Proofs.YtobmngoodjmdaaaDoor.Num Go.Proofs.YtobmngoodjmdaaaDoor.Sli Go.Proofs.YtobmngoodjmdaaaDoor.App Go.Proofs.YtobmngoodjmdaaaDoor.Div Go.Proofs.YtobmngoodjmdaaaDoor.Samp Go.Proofs.YtobmngoodjmdaaaDoor.SampF Go.Proofs.YtobmngoodjmdaaaDoor.Blk Go.Proofs.YtobmngoodjmdaaaDoor.TurM Go.Proofs.YtobmngoodjmdaaaDoor.HalM Go.Proofs.YtobmngoodjmdaaaDoor.LapM Go.Proofs.YtobmngoodjmdaaaDoor.LapN Go.Proofs.YtobmngoodjmdaaaDoor.IntL Go.Proofs.YtobmngoodjmdaaaDoor.IntA Go.Proofs.YtobmngoodjmdaaaDoor.HalS Go.Proofs.YtobmngoodjmdaaaDoor.SprS Go.Proofs.YtobmngoodjmdaaaDoor.GatS Go.Proofs.YtobmngoodjmdaaaDoor.LapS Go.Proofs.YtobmngoodjmdaaaDoor.LapT Go.Proofs.YtobmngoodjmdaaaDoor.LapU

/-- A list of numbers is appended. -/
theorem app_list {base : Nat} {W : World} {u : Value} {xs ys : List Int} {b o c m : Nat} (ty : TypeId) (h : OwI base W u xs) (hbase : base ≤ W.heap.size) (hlen : xs.length ≤ 100000) (hy : ys.length = m) (hm : 1 ≤ m ∧ m ≤ 1000)
    (hc : ∀ i, i < m → W.cell? ⟨b, o + i, none⟩ = some (.int .i64 (ys.getD i 0))) :
    ∃ gc cc w1, (Builtin.append_ #[27, 27] ty #[u, .slice (some ⟨b, o, none⟩) m c]).run Tryd.prog W = .ok (.slice (some ⟨gc, 0, none⟩) (xs.length + m) cc) w1 ∧
      OwI base w1 (.slice (some ⟨gc, 0, none⟩) (xs.length + m) cc) (xs ++ ys) ∧ W.grownBy w1 u.ownBlock := by
  obtain ⟨i0, hi, hz0, hz1, hz2⟩ := info_parts infoI
  have h' : W.ownsRow base 2 1 u xs.length (xs.map (Value.int .i64)) := h
  obtain ⟨v', w', hrun, hown, hg, _, hbl⟩ := run_append_own_at W base 27 ty 2 i0 (.int .i64 0) 1 8 Tryd.underlying27 hi hz0 hz1 hz2 rfl (by decide) u xs.length (xs.map (Value.int .i64)) h' ⟨b, o, none⟩ m c (ys.map (Value.int .i64)) (by simp [hy])
    (by
      intro j z hj
      rw [List.getElem?_map] at hj
      rcases hx : ys[j]? with _ | y
      · rw [hx] at hj; cases hj
      · rw [hx] at hj; simp at hj; subst hj
        have hjl : j < ys.length := by rcases Nat.lt_or_ge j ys.length with h1 | h1; exact h1; rw [List.getElem?_eq_none h1] at hx; cases hx
        have hc1 := hc j (by omega)
        rw [show ys.getD j 0 = y by rw [List.getD_eq_getElem?_getD, hx, Option.getD_some]] at hc1
        have e2 : (⟨b, o, none⟩ : Addr).add j = ⟨b, o + j, none⟩ := by
          by_cases hj0 : j = 0
          · subst hj0; simp [Addr.add]
          · simp [Addr.add, hj0]
        rw [e2]; exact hc1) (by intro z hz; simp at hz; obtain ⟨y, _, rfl⟩ := hz; rfl) (by rw [show maxLen = 9223372036854775807 by decide]; omega) (by omega) hbase
  obtain ⟨q, rfl⟩ : ∃ q, m = q + 1 := ⟨m - 1, by omega⟩
  obtain ⟨gc, cc, rfl⟩ := own_succ (n := xs.length + q) hown
  refine ⟨gc, cc, w', hrun, ?_, hg⟩
  show w'.ownsRow base 2 1 _ (xs ++ ys).length ((xs ++ ys).map (Value.int .i64))
  rw [List.length_append, List.map_append, hy]
  exact hown
attribute [-go_sem] Builtin.append_
set_option maxRecDepth 100000 in
set_option maxHeartbeats 4000000 in
theorem l7Play_calls (L : Nat) (s : Int) (vh vt vc : Value) (head tail co : List Int) (w : World) (hL : Blk w L #[.int .i64 s, vh, vt] 34) (h1 : Sl .i64 w vh head) (h2 : Sl .i64 w vt tail) (h3 : Sl .i64 w vc co) (hc : plC s head tail co = 0) :
    Calls Tryd.prog 68 #[.pointer (some ⟨L, 0, none⟩), vc] w fun e w' => ∃ u t k, e = .returned (.tuple #[.agg #[.int .i64 s, u, t], k]) ∧ TW w.heap.size u t (plH s tail co) ((plB s co).drop (hN s)) w' ∧ OwI w.heap.size w' k (head ++ plT s tail co) ∧ Below w.heap.size w w' := by
  obtain ⟨hc1, hcl, hcg⟩ := pl_ok hc
  obtain ⟨hz, l1, l2, b1, b2⟩ := sy_ok hc1
  obtain ⟨-, e1, e2, e3, e4, e5⟩ := sz_nat hz
  obtain ⟨g1, g2, g3⟩ := gath_ok hz hcl hcg
  obtain ⟨d1, d2⟩ := dep_of hz
  have hm0 : s.tdiv 2 = (hN s : Int) := by rw [Int.tdiv_eq_ediv_of_nonneg (by omega)]; exact e5
  have hbd : 4 ≤ s ∧ s ≤ 16 := by omega
  have hm8 : hN s ≤ 8 ∧ 2 ≤ hN s := by omega
  have lt : ((plB s co).take (hN s)).length = hN s := by rw [List.length_take, g2]; omega
  have ld : ((plB s co).drop (hN s)).length = hN s := by rw [List.length_drop, g2]; omega
  have HGa := hid (fun W v (q : Sl .i64 W v co) => l6Gather_calls (dep s.toNat) v co 16777216 W d2 q g1 (gb_ok hcg).2 (by rcases is3_sz (sz_nat hz).1 with e | e | e | e <;> rw [e] <;> decide))
  have HSe := hid (fun W v1 v2 (q1 : Sl .i64 W v1 tail) (q2 : Sl .i64 W v2 ((plB s co).take (hN s))) => seamBack_calls s v1 v2 tail ((plB s co).take (hN s)) W hz q1 q2 l2 lt (b2.mono (by omega)) ((lim_take g3 _).mono (by omega)))
  have HI := hid (fun W v (q : Sl .i64 W v head) => ints_calls v head W q (by omega))
  have HJ := hid (fun W v (q : Sl .i64 W v ((plB s co).drop (hN s))) => ints_calls v ((plB s co).drop (hN s)) W q (by omega))
  have HlT : Hid ((plT s tail co).length = hN s) := smA_len _ _ _ _
  have HlH := hid l1
  have HtG := hid (take_get (plB s co) (hN s))
  have HdG := hid (drop_get (plB s co) (hN s))
  have Hlt := hid lt
  have Hld := hid ld
  have HlB := hid g2
  have HeT : Hid (smA (bkF s.toNat) (hN s) tail ((plB s co).take (hN s)) = plT s tail co) := rfl
  have HeH : Hid (smB (bkF s.toNat) (hN s) tail ((plB s co).take (hN s)) = plH s tail co) := rfl
  have HeB : Hid (ga (dep s.toNat) co = plB s co) := rfl
  rw [HeT.out, HeH.out] at HSe
  rw [HeB.out, ← d1, e2] at HGa
  rw [e2] at HlB
  rw [ld] at HJ
  rw [l1] at HI
  obtain ⟨a1, c1, rfl, -⟩ := id h1
  obtain ⟨a2, c2, rfl, -⟩ := id h2
  obtain ⟨a3, c3, rfl, -⟩ := id h3
  rw [l1] at h1 hL
  rw [l2] at h2 hL
  have H1 := hid h1
  have H2 := hid h2
  have hb0 := bmore (Below.refl _ w) (.cells #[.int .i64 0, .slice none 0 0, .slice none 0 0] 34)
  have H3 := hid (h3.later hb0)
  have HR0 := hid (Blk.new w #[.int .i64 0, .slice none 0 0, .slice none 0 0] 34)
  have HL0 := hid (hL.later hb0)
  have HB0 := hid hb0
  have hLl := hL.lt
  clear hc hc1 hcl hcg hz l1 l2 b1 b2 g1 g2 g3 d1 d2 e1 e2 e3 e4 e5 lt ld h1 h2 h3 hL HeT HeH HeB hb0
  generalize hN s = m at *
  generalize plT s tail co = T at *
  generalize plH s tail co = F at *
  generalize plB s co = K at *
  generalize K.take m = FT at *
  generalize K.drop m = FD at *
  obtain ⟨n, hn⟩ : ∃ n : Nat, 2 * m = n := ⟨_, rfl⟩
  have HN := hid hn
  have hnm : n - m = m := by omega
  have hmI2 : (m : Int) ≤ (n : Int) := by omega
  have hn16 : n ≤ 16 := by omega
  rw [hn] at HGa HlB
  clear hn
  have hwl : w.heap.size < (w.alloc (.cells #[.int .i64 0, .slice none 0 0, .slice none 0 0] 34)).heap.size := by simp
  obtain ⟨t0, t1, t2, _⟩ := HL0.out.three
  go_enter Tryd.func68, Tryd.ntmps68
  go_wp2_with fail
  refine (HGa.out _ _ H3.out).mono ?_
  rintro e w4 ⟨gk, ck, rfl, ho4, hb4⟩
  have hck : n ≤ ck := ho4.fits
  have hmI : (m : Int) ≤ (ck : Int) := by omega
  have hnc : (n : Int) ≤ (ck : Int) := by omega
  have hcm : ¬ ck = m := by omega
  have HK4 := hid ho4
  have HL4 := hid (HL0.out.later hb4)
  have HR4 := hid (HR0.out.later hb4)
  have HB4 := hid (bthen HB0.out hb4)
  have H14 := hid ((H1.out.later HB0.out).later hb4)
  have H24 := hid ((H2.out.later HB0.out).later hb4)
  have hw4 := hb4.size
  have hgk := ho4.block gk rfl
  have HKc : Hid (∀ i, i < n → w4.cell? ⟨gk, i, none⟩ = some (.int .i64 (K.getD i 0))) := fun i hi => (ho4.cellAt HlB.out.symm i (by rw [HlB.out]; exact hi)).1
  obtain ⟨t0, t1, t2, _⟩ := HL4.out.three
  have hLr := HL4.out.lt
  clear ho4 hb4 HGa H1 H2 H3 HL0 HR0 HB0
  go_wp2_with fail
  have hL1 : Below w4.heap.size w4 w4.drew := (Below.refl _ w4).drew
  refine wp_region_noPanic ?_
  refine wp_region_held_drew (S := fun W => Below w4.heap.size w4 W) (by kernel_rfl) ?_ (fun hHeld => ?_)
  · first | exact hL9 | exact hL1
  (refine wpAnyH_take (i := 0) (v := ?_) rfl (by kernel_rfl) (by kernel_rfl) (by kernel_rfl) (fun _ _ _ h => h) (Or.inl ⟨by rfl, ?_⟩) hHeld ?_; rotate_left; (intro w hSw; (have s0 := (hSw.cell (p := ⟨L, 0, none⟩) hLr).trans t0; have s2 := (hSw.cell (p := ⟨L, 2, none⟩) hLr).trans t2; clear hSw); (go_simp <;> with_reducible rfl)); simp only [List.getElem_toArray, List.getElem_cons_zero, Act.put, List.setIfInBounds_toArray, List.set_cons_zero, List.set_cons_succ])
  (refine wpAnyH_take (i := 1) (v := ?_) rfl (by kernel_rfl) (by kernel_rfl) (by kernel_rfl) (fun _ _ _ h => h) (Or.inl ⟨by rfl, ?_⟩) hHeld ?_; rotate_left; (intro w hSw; (have s0 := (hSw.cell (p := ⟨L, 0, none⟩) hLr).trans t0; have s2 := (hSw.cell (p := ⟨L, 2, none⟩) hLr).trans t2; clear hSw); (go_simp <;> with_reducible rfl)); simp only [List.getElem_toArray, List.getElem_cons_zero, List.getElem_cons_succ, Act.put, List.setIfInBounds_toArray, List.set_cons_zero, List.set_cons_succ])
  (refine wpAnyH_take (i := 2) (v := ?_) rfl (by kernel_rfl) (by kernel_rfl) (by kernel_rfl) (fun _ _ _ h => h) (Or.inl ⟨by rfl, ?_⟩) hHeld ?_; rotate_left; (intro w hSw; (have s0 := (hSw.cell (p := ⟨L, 0, none⟩) hLr).trans t0; have s2 := (hSw.cell (p := ⟨L, 2, none⟩) hLr).trans t2; clear hSw); (go_simp <;> with_reducible rfl)); simp only [List.getElem_toArray, List.getElem_cons_zero, List.getElem_cons_succ, Act.put, List.setIfInBounds_toArray, List.set_cons_zero, List.set_cons_succ])
  (refine wpAnyH_take (i := 3) (v := ?_) rfl (by kernel_rfl) (by kernel_rfl) (by kernel_rfl) (fun _ _ _ h => h) (Or.inl ⟨by rfl, ?_⟩) hHeld ?_; rotate_left; (intro w hSw; (have s0 := (hSw.cell (p := ⟨L, 0, none⟩) hLr).trans t0; have s2 := (hSw.cell (p := ⟨L, 2, none⟩) hLr).trans t2; clear hSw); (go_simp <;> with_reducible rfl)); simp only [List.getElem_toArray, List.getElem_cons_zero, List.getElem_cons_succ, Act.put, List.setIfInBounds_toArray, List.set_cons_zero, List.set_cons_succ])
  (refine wpAnyH_take (i := 4) (v := ?_) rfl (by kernel_rfl) (by kernel_rfl) (by kernel_rfl) (fun _ _ _ h => h) (Or.inl ⟨by rfl, ?_⟩) hHeld ?_; rotate_left; (intro w hSw; (have s0 := (hSw.cell (p := ⟨L, 0, none⟩) hLr).trans t0; have s2 := (hSw.cell (p := ⟨L, 2, none⟩) hLr).trans t2; clear hSw); (go_simp <;> with_reducible rfl)); simp only [List.getElem_toArray, List.getElem_cons_zero, List.getElem_cons_succ, Act.put, List.setIfInBounds_toArray, List.set_cons_zero, List.set_cons_succ])
  (refine wpAnyH_take (i := 5) (v := ?_) rfl (by kernel_rfl) (by kernel_rfl) (by kernel_rfl) (fun _ _ _ h => h) (Or.inl ⟨by rfl, ?_⟩) hHeld ?_; rotate_left; (intro w hSw; (have s0 := (hSw.cell (p := ⟨L, 0, none⟩) hLr).trans t0; have s2 := (hSw.cell (p := ⟨L, 2, none⟩) hLr).trans t2; clear hSw); (go_simp <;> with_reducible rfl)); simp only [List.getElem_toArray, List.getElem_cons_zero, List.getElem_cons_succ, Act.put, List.setIfInBounds_toArray, List.set_cons_zero, List.set_cons_succ])
  (refine wpAnyH_take (i := 6) (v := ?_) rfl (by kernel_rfl) (by kernel_rfl) (by kernel_rfl) (fun _ _ _ h => h) (Or.inl ⟨by rfl, ?_⟩) hHeld ?_; rotate_left; (intro w hSw; (have s0 := (hSw.cell (p := ⟨L, 0, none⟩) hLr).trans t0; have s2 := (hSw.cell (p := ⟨L, 2, none⟩) hLr).trans t2; clear hSw); (go_simp <;> with_reducible rfl)); simp only [List.getElem_toArray, List.getElem_cons_zero, List.getElem_cons_succ, Act.put, List.setIfInBounds_toArray, List.set_cons_zero, List.set_cons_succ])
  (refine wpAnyH_take (i := 7) (v := ?_) rfl (by kernel_rfl) (by kernel_rfl) (by kernel_rfl) (fun _ _ _ h => h) (Or.inl ⟨by rfl, ?_⟩) hHeld ?_; rotate_left; (intro w hSw; (have s0 := (hSw.cell (p := ⟨L, 0, none⟩) hLr).trans t0; have s2 := (hSw.cell (p := ⟨L, 2, none⟩) hLr).trans t2; clear hSw); (go_simp <;> with_reducible rfl)); simp only [List.getElem_toArray, List.getElem_cons_zero, List.getElem_cons_succ, Act.put, List.setIfInBounds_toArray, List.set_cons_zero, List.set_cons_succ])
  (refine wpAnyH_take (i := 8) (v := ?_) rfl (by kernel_rfl) (by kernel_rfl) (by kernel_rfl) (fun _ _ _ h => h) (Or.inl ⟨by rfl, ?_⟩) hHeld ?_; rotate_left; (intro w hSw; (have s0 := (hSw.cell (p := ⟨L, 0, none⟩) hLr).trans t0; have s2 := (hSw.cell (p := ⟨L, 2, none⟩) hLr).trans t2; clear hSw); (go_simp <;> with_reducible rfl)); simp only [List.getElem_toArray, List.getElem_cons_zero, List.getElem_cons_succ, Act.put, List.setIfInBounds_toArray, List.set_cons_zero, List.set_cons_succ])
  (refine wpAnyH_take (i := 9) (v := ?_) rfl (by kernel_rfl) (by kernel_rfl) (by kernel_rfl) (fun _ _ _ h => h) (Or.inl ⟨by rfl, ?_⟩) hHeld ?_; rotate_left; (intro w hSw; (have s0 := (hSw.cell (p := ⟨L, 0, none⟩) hLr).trans t0; have s2 := (hSw.cell (p := ⟨L, 2, none⟩) hLr).trans t2; clear hSw); (go_simp <;> with_reducible rfl)); simp only [List.getElem_toArray, List.getElem_cons_zero, List.getElem_cons_succ, Act.put, List.setIfInBounds_toArray, List.set_cons_zero, List.set_cons_succ])
  (refine wpAnyH_take (i := 10) (v := ?_) rfl (by kernel_rfl) (by kernel_rfl) (by kernel_rfl) (fun _ _ _ h => h) (Or.inl ⟨by rfl, ?_⟩) hHeld ?_; rotate_left; (intro w hSw; (have s0 := (hSw.cell (p := ⟨L, 0, none⟩) hLr).trans t0; have s2 := (hSw.cell (p := ⟨L, 2, none⟩) hLr).trans t2; clear hSw); (go_simp <;> with_reducible rfl)); simp only [List.getElem_toArray, List.getElem_cons_zero, List.getElem_cons_succ, Act.put, List.setIfInBounds_toArray, List.set_cons_zero, List.set_cons_succ])
  (refine wpAnyH_ready (rs := [11]) (by kernel_rfl) (by simp) ?_; refine AllReadyH.cons rfl (fun K hK => ?_) AllReadyH.nil; go_simp; (refine (HSe.out _ _ _ (H24.out.later hHeld) (sl_cells Hlt.out (Nat.lt_of_lt_of_le hgk.2 hHeld.size) (fun i hi => by rw [Nat.zero_add, hHeld.cell (p := ⟨gk, i, none⟩) hgk.2, HKc.out i (by omega), HtG.out i, if_pos hi]))).mono ?_; rintro e w9 ⟨ga, gb, rfl, hk9⟩; have hL9 := bthen hHeld hk9.b); refine hK.out _ _ ?_ (fun hHeld => ?_); (first | exact hL9 | exact hL1); clear hK K; try dsimp only)
  (refine wpAnyH_take (i := 12) (v := ?_) rfl (by kernel_rfl) (by kernel_rfl) (by kernel_rfl) (fun _ _ _ h => h) (Or.inl ⟨by rfl, ?_⟩) hHeld ?_; rotate_left; (intro w hSw; (have s0 := (hSw.cell (p := ⟨L, 0, none⟩) hLr).trans t0; have s2 := (hSw.cell (p := ⟨L, 2, none⟩) hLr).trans t2; clear hSw); (go_simp <;> with_reducible rfl)); simp only [List.getElem_toArray, List.getElem_cons_zero, List.getElem_cons_succ, Act.put, List.setIfInBounds_toArray, List.set_cons_zero, List.set_cons_succ])
  (refine wpAnyH_take (i := 13) (v := ?_) rfl (by kernel_rfl) (by kernel_rfl) (by kernel_rfl) (fun _ _ _ h => h) (Or.inl ⟨by rfl, ?_⟩) hHeld ?_; rotate_left; (intro w hSw; (have s0 := (hSw.cell (p := ⟨L, 0, none⟩) hLr).trans t0; have s2 := (hSw.cell (p := ⟨L, 2, none⟩) hLr).trans t2; clear hSw); (go_simp <;> with_reducible rfl)); simp only [List.getElem_toArray, List.getElem_cons_zero, List.getElem_cons_succ, Act.put, List.setIfInBounds_toArray, List.set_cons_zero, List.set_cons_succ])
  (refine wpAnyH_take (i := 14) (v := ?_) rfl (by kernel_rfl) (by kernel_rfl) (by kernel_rfl) (fun _ _ _ h => h) (Or.inl ⟨by rfl, ?_⟩) hHeld ?_; rotate_left; (intro w hSw; (have s0 := (hSw.cell (p := ⟨L, 0, none⟩) hLr).trans t0; have s2 := (hSw.cell (p := ⟨L, 2, none⟩) hLr).trans t2; clear hSw); (go_simp <;> with_reducible rfl)); simp only [List.getElem_toArray, List.getElem_cons_zero, List.getElem_cons_succ, Act.put, List.setIfInBounds_toArray, List.set_cons_zero, List.set_cons_succ])
  (refine wpAnyH_take (i := 15) (v := ?_) rfl (by kernel_rfl) (by kernel_rfl) (by kernel_rfl) (fun _ _ _ h => h) (Or.inl ⟨by rfl, ?_⟩) hHeld ?_; rotate_left; (intro w hSw; (have s0 := (hSw.cell (p := ⟨L, 0, none⟩) hLr).trans t0; have s2 := (hSw.cell (p := ⟨L, 2, none⟩) hLr).trans t2; clear hSw); (go_simp <;> with_reducible rfl)); simp only [List.getElem_toArray, List.getElem_cons_zero, List.getElem_cons_succ, Act.put, List.setIfInBounds_toArray, List.set_cons_zero, List.set_cons_succ])
  (refine wpAnyH_take (i := 16) (v := ?_) rfl (by kernel_rfl) (by kernel_rfl) (by kernel_rfl) (fun _ _ _ h => h) (Or.inl ⟨by rfl, ?_⟩) hHeld ?_; rotate_left; (intro w hSw; (have s0 := (hSw.cell (p := ⟨L, 0, none⟩) hLr).trans t0; have s2 := (hSw.cell (p := ⟨L, 2, none⟩) hLr).trans t2; clear hSw); (go_simp <;> with_reducible rfl)); simp only [List.getElem_toArray, List.getElem_cons_zero, List.getElem_cons_succ, Act.put, List.setIfInBounds_toArray, List.set_cons_zero, List.set_cons_succ])
  refine wpAnyH_done (by kernel_rfl) ?_ _
  refine NoPanic.normal ?_
  have HB9 := hid hL9
  have HF9 := hid hk9.d
  have HT9 := hid hk9.s
  have hgb := (hk9.d.block gb rfl).2
  have hga := (hk9.s.block ga rfl).2
  have hsz9 := hL9.size
  have Hh9 := hid (H14.out.later hL9)
  have HL9 := hid (HL4.out.later hL9)
  have HR9 := hid (HR4.out.later hL9)
  have HBw := hid (bthen HB4.out hL9)
  have hS0 : w9.drew.cell? ⟨L, 0, none⟩ = some (.int .i64 s) ∧ w9.drew.cell? ⟨L, 1, none⟩ = some (.slice a1 m c1) := ⟨(hL9.cell (p := ⟨L, 0, none⟩) hLr).trans t0, (hL9.cell (p := ⟨L, 1, none⟩) hLr).trans t1⟩
  have HFD9 : Hid (Sl .i64 w9.drew (.slice (some ⟨gk, m, none⟩) m (ck - m)) FD) := sl_cells Hld.out (Nat.lt_of_lt_of_le hgk.2 hsz9) (fun i hi => by
    rw [show w9.drew.cell? ⟨gk, m + i, none⟩ = w9.cell? ⟨gk, m + i, none⟩ from rfl, hL9.cell (p := ⟨gk, m + i, none⟩) hgk.2, HKc.out (m + i) (by omega), HdG.out i])
  have HTc : Hid (∀ i, i < m → w9.cell? ⟨ga, i, none⟩ = some (.int .i64 (T.getD i 0))) := fun i hi => (hk9.s.cellAt HlT.out.symm i (by rw [HlT.out]; exact hi)).1
  have hLR : L ≠ w.heap.size := by omega
  have hd9 : Below w9.heap.size w9 w9.drew := (Below.refl _ w9).drew
  clear hHeld hL1 hL9 hk9 t0 t1 t2 HSe H14 H24 HL4 HR4 HB4 HKc HtG HdG Hlt HT9 HB9
  go_wp2_with fail
  refine wp_region_noPanic ?_
  refine wp_region_held_drew (S := fun W => W.cell? ⟨L, 0, none⟩ = some (.int .i64 s) ∧ W.cell? ⟨L, 1, none⟩ = some (.slice a1 m c1)) (by kernel_rfl) (by first | exact hS17 | exact hS16 | exact hS15 | exact hS14 | exact hS0) (fun hHeld => ?_)
  (refine wpAnyH_take (i := 0) (v := ?_) rfl (by kernel_rfl) (by kernel_rfl) (by kernel_rfl) (fun _ _ _ h => h) (Or.inl ⟨by rfl, ?_⟩) hHeld ?_; rotate_left; (intro w hSw; (obtain ⟨s0, s1⟩ := hSw); (go_simp <;> with_reducible rfl)); simp only [List.getElem_toArray, List.getElem_cons_zero, Act.put, List.setIfInBounds_toArray, List.set_cons_zero, List.set_cons_succ])
  (refine wpAnyH_take (i := 1) (v := ?_) rfl (by kernel_rfl) (by kernel_rfl) (by kernel_rfl) (fun _ _ _ h => h) (Or.inl ⟨by rfl, ?_⟩) hHeld ?_; rotate_left; (intro w hSw; (obtain ⟨s0, s1⟩ := hSw); (go_simp <;> with_reducible rfl)); simp only [List.getElem_toArray, List.getElem_cons_zero, List.getElem_cons_succ, Act.put, List.setIfInBounds_toArray, List.set_cons_zero, List.set_cons_succ])
  (refine wpAnyH_take (i := 2) (v := ?_) rfl (by kernel_rfl) (by kernel_rfl) (by kernel_rfl) (fun _ _ _ h => h) (Or.inl ⟨by rfl, ?_⟩) hHeld ?_; rotate_left; (intro w hSw; (obtain ⟨s0, s1⟩ := hSw); (go_simp <;> with_reducible rfl)); simp only [List.getElem_toArray, List.getElem_cons_zero, List.getElem_cons_succ, Act.put, List.setIfInBounds_toArray, List.set_cons_zero, List.set_cons_succ])
  (refine wpAnyH_take (i := 3) (v := ?_) rfl (by kernel_rfl) (by kernel_rfl) (by kernel_rfl) (fun _ _ _ h => h) (Or.inl ⟨by rfl, ?_⟩) hHeld ?_; rotate_left; (intro w hSw; (obtain ⟨s0, s1⟩ := hSw); (go_simp <;> with_reducible rfl)); simp only [List.getElem_toArray, List.getElem_cons_zero, List.getElem_cons_succ, Act.put, List.setIfInBounds_toArray, List.set_cons_zero, List.set_cons_succ])
  (refine wpAnyH_take (i := 4) (v := ?_) rfl (by kernel_rfl) (by kernel_rfl) (by kernel_rfl) (fun _ _ _ h => h) (Or.inl ⟨by rfl, ?_⟩) hHeld ?_; rotate_left; (intro w hSw; (obtain ⟨s0, s1⟩ := hSw); (go_simp <;> with_reducible rfl)); simp only [List.getElem_toArray, List.getElem_cons_zero, List.getElem_cons_succ, Act.put, List.setIfInBounds_toArray, List.set_cons_zero, List.set_cons_succ])
  (refine wpAnyH_take (i := 5) (v := ?_) rfl (by kernel_rfl) (by kernel_rfl) (by kernel_rfl) (fun _ _ _ h => h) (Or.inl ⟨by rfl, ?_⟩) hHeld ?_; rotate_left; (intro w hSw; (obtain ⟨s0, s1⟩ := hSw); (go_simp <;> with_reducible rfl)); simp only [List.getElem_toArray, List.getElem_cons_zero, List.getElem_cons_succ, Act.put, List.setIfInBounds_toArray, List.set_cons_zero, List.set_cons_succ])
  (refine wpAnyH_take (i := 6) (v := ?_) rfl (by kernel_rfl) (by kernel_rfl) (by kernel_rfl) (fun _ _ _ h => h) (Or.inl ⟨by rfl, ?_⟩) hHeld ?_; rotate_left; (intro w hSw; (obtain ⟨s0, s1⟩ := hSw); (go_simp <;> with_reducible rfl)); simp only [List.getElem_toArray, List.getElem_cons_zero, List.getElem_cons_succ, Act.put, List.setIfInBounds_toArray, List.set_cons_zero, List.set_cons_succ])
  (refine wpAnyH_take (i := 7) (v := ?_) rfl (by kernel_rfl) (by kernel_rfl) (by kernel_rfl) (fun _ _ _ h => h) (Or.inl ⟨by rfl, ?_⟩) hHeld ?_; rotate_left; (intro w hSw; (obtain ⟨s0, s1⟩ := hSw); (go_simp <;> with_reducible rfl)); simp only [List.getElem_toArray, List.getElem_cons_zero, List.getElem_cons_succ, Act.put, List.setIfInBounds_toArray, List.set_cons_zero, List.set_cons_succ])
  (refine wpAnyH_take (i := 10) (v := ?_) rfl (by kernel_rfl) (by kernel_rfl) (by kernel_rfl) (fun _ _ _ h => h) (Or.inl ⟨by rfl, ?_⟩) hHeld ?_; rotate_left; (intro w hSw; (obtain ⟨s0, s1⟩ := hSw); (go_simp <;> with_reducible rfl)); simp only [List.getElem_toArray, List.getElem_cons_zero, List.getElem_cons_succ, Act.put, List.setIfInBounds_toArray, List.set_cons_zero, List.set_cons_succ])
  (refine wpAnyH_take (i := 11) (v := ?_) rfl (by kernel_rfl) (by kernel_rfl) (by kernel_rfl) (fun _ _ _ h => h) (Or.inl ⟨by rfl, ?_⟩) hHeld ?_; rotate_left; (intro w hSw; (obtain ⟨s0, s1⟩ := hSw); (go_simp <;> with_reducible rfl)); simp only [List.getElem_toArray, List.getElem_cons_zero, List.getElem_cons_succ, Act.put, List.setIfInBounds_toArray, List.set_cons_zero, List.set_cons_succ])
  (refine wpAnyH_take (i := 12) (v := ?_) rfl (by kernel_rfl) (by kernel_rfl) (by kernel_rfl) (fun _ _ _ h => h) (Or.inl ⟨by rfl, ?_⟩) hHeld ?_; rotate_left; (intro w hSw; (obtain ⟨s0, s1⟩ := hSw); (go_simp <;> with_reducible rfl)); simp only [List.getElem_toArray, List.getElem_cons_zero, List.getElem_cons_succ, Act.put, List.setIfInBounds_toArray, List.set_cons_zero, List.set_cons_succ])
  (refine wpAnyH_take (i := 13) (v := ?_) rfl (by kernel_rfl) (by kernel_rfl) (by kernel_rfl) (fun _ _ _ h => h) (Or.inl ⟨by rfl, ?_⟩) hHeld ?_; rotate_left; (intro w hSw; (obtain ⟨s0, s1⟩ := hSw); (go_simp <;> with_reducible rfl)); simp only [List.getElem_toArray, List.getElem_cons_zero, List.getElem_cons_succ, Act.put, List.setIfInBounds_toArray, List.set_cons_zero, List.set_cons_succ])
  (refine wpAnyH_take (i := 15) (v := ?_) rfl (by kernel_rfl) (by kernel_rfl) (by kernel_rfl) (fun _ _ _ h => h) (Or.inl ⟨by rfl, ?_⟩) hHeld ?_; rotate_left; (intro w hSw; (obtain ⟨s0, s1⟩ := hSw); (go_simp <;> with_reducible rfl)); simp only [List.getElem_toArray, List.getElem_cons_zero, List.getElem_cons_succ, Act.put, List.setIfInBounds_toArray, List.set_cons_zero, List.set_cons_succ])
  refine wpAnyH_ready (rs := [8]) (by kernel_rfl) (by simp) ?_
  refine (AllReadyH.cons rfl (fun K hK => ?_) AllReadyH.nil)
  go_simp
  (refine (HJ.out _ _ HFD9.out).mono ?_; rintro e w14 ⟨g14, c14, rfl, ho14, hb14'⟩; have hb14 := bthen hd9 hb14'; have hL14 := HL9.out.later hb14; have hS14 := And.intro hL14.three.1 hL14.three.2.1)
  refine hK.out _ _ (by first | exact hS17 | exact hS16 | exact hS15 | exact hS14 | exact hS0) (fun hHeld => ?_)
  clear hK K
  try dsimp only
  (refine wpAnyH_take (i := 9) (v := ?_) rfl (by kernel_rfl) (by kernel_rfl) (by kernel_rfl) (fun _ _ _ h => h) (Or.inl ⟨by rfl, ?_⟩) hHeld ?_; rotate_left; (intro w hSw; (obtain ⟨s0, s1⟩ := hSw); (go_simp <;> with_reducible rfl)); simp only [List.getElem_toArray, List.getElem_cons_zero, List.getElem_cons_succ, Act.put, List.setIfInBounds_toArray, List.set_cons_zero, List.set_cons_succ])
  refine wpAnyH_ready (rs := [14]) (by kernel_rfl) (by simp) ?_
  refine (AllReadyH.cons rfl (fun K hK => ?_) AllReadyH.nil)
  go_simp
  (refine (HI.out _ _ (Hh9.out.later hb14)).mono ?_; rintro e w15 ⟨g15, c15, rfl, ho15, hb15⟩; have hL15 := hL14.later hb15; have hS15 := And.intro hL15.three.1 hL15.three.2.1; obtain ⟨gc, cc, w16, hrun, ho16, hg16⟩ := app_list (c := m) 27 ho15 hb15.size (by rw [HlH.out]; omega) HlT.out (by omega) (fun i hi => by rw [Nat.zero_add, hb15.cell (p := ⟨ga, i, none⟩) (Nat.lt_of_lt_of_le hga hb14.size), hb14.cell (p := ⟨ga, i, none⟩) hga, HTc.out i hi]); rw [HlH.out] at hrun ho16; have hnn : m + m = n := (by have := HN.out; omega); rw [hnn] at hrun ho16; have hg15 := ho15.block g15 rfl; have hL16 := hL15.kept hg16 (by simp [Value.ownBlock]; (have := hb14.size; omega)); have hR16 := ((HR9.out.later hb14).later hb15).kept hg16 (by simp [Value.ownBlock]; (have := hb14.size; omega)); have hS16 := And.intro hL16.three.1 hL16.three.2.1; obtain ⟨r0, r1, r2, q0, q1, q2⟩ := hR16.three)
  refine hK.out _ _ (by first | exact hS17 | exact hS16 | exact hS15 | exact hS14 | exact hS0) (fun hHeld => ?_)
  clear hK K
  try dsimp only
  refine wpAnyH_ready (rs := [16]) (by kernel_rfl) (by simp) ?_
  refine (AllReadyH.cons rfl (fun K hK => ?_) AllReadyH.nil)
  go_simp
  skip
  refine hK.out _ _ (by first | exact hS17 | exact hS16 | exact hS15 | exact hS14 | exact hS0) (fun hHeld => ?_)
  clear hK K
  try simp only [List.getElem_toArray, List.getElem_cons_zero, List.getElem_cons_succ, Act.put, List.setIfInBounds_toArray, List.set_cons_zero, List.set_cons_succ]
  refine wpAnyH_ready (rs := [17]) (by kernel_rfl) (by simp) ?_
  refine (AllReadyH.cons rfl (fun K hK => ?_) AllReadyH.nil)
  go_simp
  (have hL17 := ((hL16.other (b' := w.heap.size) (Ne.symm hLR) 0 (.int .i64 s)).other (b' := w.heap.size) (Ne.symm hLR) 1 (.slice (some ⟨gb, 0, none⟩) m m)).other (b' := w.heap.size) (Ne.symm hLR) 2 (.slice (some ⟨g14, 0, none⟩) m c14); have hS17 := And.intro hL17.three.1 hL17.three.2.1)
  refine hK.out _ _ (by first | exact hS17 | exact hS16 | exact hS15 | exact hS14 | exact hS0) (fun hHeld => ?_)
  clear hK K
  try simp only [List.getElem_toArray, List.getElem_cons_zero, List.getElem_cons_succ, Act.put, List.setIfInBounds_toArray, List.set_cons_zero, List.set_cons_succ]
  (refine wpAnyH_take (i := 18) (v := ?_) rfl (by kernel_rfl) (by kernel_rfl) (by kernel_rfl) (fun _ _ _ h => h) (Or.inl ⟨by rfl, ?_⟩) hHeld ?_; rotate_left; (intro w hSw; (obtain ⟨s0, s1⟩ := hSw); (go_simp <;> with_reducible rfl)); simp only [List.getElem_toArray, List.getElem_cons_zero, List.getElem_cons_succ, Act.put, List.setIfInBounds_toArray, List.set_cons_zero, List.set_cons_succ])
  refine wpAnyH_done (by kernel_rfl) ?_ _
  refine NoPanic.normal ?_
  have hz14 := hb14.size
  have hz15 := hb15.size
  have hgs := grown_set3 w16 w.heap.size (.int .i64 s) (.slice (some ⟨gb, 0, none⟩) m m) (.slice (some ⟨g14, 0, none⟩) m c14)
  have hg14 := ho14.block g14 rfl
  have h99 : w9.drew.heap.size = w9.heap.size := rfl
  have hF17 := ((Ow.keptNe ((HF9.out.later hb14).later hb15) hg16 (fun j e => by simp [Value.ownBlock] at e ⊢; omega)).over (show w.heap.size < w4.heap.size by omega) hgs).mono (show w.heap.size ≤ w4.heap.size by omega)
  have hD17 := ((Ow.keptNe (ho14.later hb15) hg16 (fun j e => by simp [Value.ownBlock] at e ⊢; omega)).over (show w.heap.size < w9.heap.size by omega) hgs).mono (show w.heap.size ≤ w9.heap.size by omega)
  have hK17 := (ho16.over (show w.heap.size < w14.heap.size by omega) hgs).mono (show w.heap.size ≤ w14.heap.size by omega)
  have hB17 := below_cell (below_cell (below_cell ((bthen (bthen HBw.out hb14) hb15).trans (below_of_grown hg16 (by omega) (fun j e => by simp [Value.ownBlock] at e; omega))) (Nat.le_refl _) 0 (.int .i64 s)) (Nat.le_refl _) 1 (.slice (some ⟨gb, 0, none⟩) m m)) (Nat.le_refl _) 2 (.slice (some ⟨g14, 0, none⟩) m c14)
  go_wp2
  exact bodyPost_ret (v := .tuple #[.agg #[.int .i64 s, .slice (some ⟨gb, 0, none⟩) m m, .slice (some ⟨g14, 0, none⟩) m c14], .slice (some ⟨gc, 0, none⟩) n cc]) (by simp [results, Tryd.results68, go_sem, r0, r1, r2]) rfl ⟨_, _, _, rfl, ⟨hF17, hD17, fun g x1 x2 => by simp [Value.ownBlock] at x1 x2; omega⟩, hK17, hB17⟩
end Go.Proofs.YtobmngoodjmdaaaDoor.LapV
