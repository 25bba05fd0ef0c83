/- The model feeds a frame. Conditions: a right lap and a frame of samples of its size, or any at the face. -/
import Derived.Test.YtodfkicmmcfkaaaLapT
import Derived.Test.YtodfkicmmcfkaaaSprS
import Derived.Test.YtodfkicmmcfkaaaGatS
namespace Go.Proofs.Ytodfkicmmcfkaaa.LapU
open Go.ChangeShapes Go.WideShapes Go.ChangeAt Go.RowKit Go.Proofs.Ytodfkicmmcfkaaa.Num Go.Proofs.Ytodfkicmmcfkaaa.Sli Go.Proofs.Ytodfkicmmcfkaaa.App Go.Proofs.Ytodfkicmmcfkaaa.Div Go.Proofs.Ytodfkicmmcfkaaa.Samp Go.Proofs.Ytodfkicmmcfkaaa.SampF Go.Proofs.Ytodfkicmmcfkaaa.Blk Go.Proofs.Ytodfkicmmcfkaaa.TurM Go.Proofs.Ytodfkicmmcfkaaa.HalM Go.Proofs.Ytodfkicmmcfkaaa.LapM Go.Proofs.Ytodfkicmmcfkaaa.LapN Go.Proofs.Ytodfkicmmcfkaaa.IntL Go.Proofs.Ytodfkicmmcfkaaa.IntA Go.Proofs.Ytodfkicmmcfkaaa.HalS Go.Proofs.Ytodfkicmmcfkaaa.SprS Go.Proofs.Ytodfkicmmcfkaaa.GatS Go.Proofs.Ytodfkicmmcfkaaa.LapS Go.Proofs.Ytodfkicmmcfkaaa.LapT

theorem sl_cells {w : World} {b o c m : Nat} {xs : List Int} (hx : xs.length = m) (hb : b < w.heap.size) (hc : ∀ i, i < m → w.cell? ⟨b, o + i, none⟩ = some (.int .i64 (xs.getD i 0))) : Sl .i64 w (.slice (some ⟨b, o, none⟩) m c) xs := by
  subst hx
  exact ⟨_, _, rfl, fun _ => ⟨b, o, rfl, hb, hc⟩⟩
set_option maxRecDepth 100000 in
set_option maxHeartbeats 4000000 in
theorem l7Feed_calls (L : Nat) (s : Int) (vh vr vf : Value) (half rest fr : List Int) (w : World) (hL : Blk w L #[.int .i64 s, vh, vr] 78) (h1 : Sl .i64 w vh half) (h2 : Sl .i64 w vr rest) (h3 : Sl .i64 w vf fr) (hf : Fits vf) (hc : fdC s half rest fr = 0) :
    Calls Try.prog 57 #[.pointer (some ⟨L, 0, none⟩), vf] w fun e w' => ∃ u t k, e = .returned (.tuple #[.agg #[.int .i64 s, u, t], k]) ∧ TW w.heap.size u t (fdH s rest fr) (fr.drop (hN s)) w' ∧ OwI w.heap.size w' k (fdK s half rest fr) ∧ Below w.heap.size w w' := by
  obtain ⟨hc1, hc2⟩ := fd_ok hc
  obtain ⟨hz, l1, l2, b1, b2⟩ := lf_ok hc1
  obtain ⟨-, l3, b3⟩ := sm_ok hc2
  obtain ⟨-, e1, e2, e3, e4, e5⟩ := sz_nat hz
  obtain ⟨k1, k2⟩ := block_ok hc
  obtain ⟨d1, d2⟩ := dep_of hz
  have hm0 : s.tdiv 2 = (hN s : Int) := by rw [Int.tdiv_eq_ediv_of_nonneg (by omega)]; exact e5
  have hbd : 4 ≤ s ∧ s ≤ 16 := by omega
  have hm8 : hN s ≤ 8 ∧ 2 ≤ hN s := by omega
  have l3' : fr.length = 2 * hN s := by omega
  have hnf : fr ≠ [] := by intro e; rw [e] at l3'; simp at l3'; omega
  have lt : (fr.take (hN s)).length = hN s := by rw [List.length_take]; omega
  have ld : (fr.drop (hN s)).length = hN s := by rw [List.length_drop]; omega
  have HSe := hid (fun W v1 v2 (q1 : Sl .i64 W v1 rest) (q2 : Sl .i64 W v2 (fr.take (hN s))) => seamAhead_calls s v1 v2 rest (fr.take (hN s)) W hz q1 q2 l2 lt (b2.lim.mono (by omega)) ((smL_take b3 _).lim.mono (by omega)))
  have HI := hid (fun W v (q : Sl .i64 W v half) => ints_calls v half W q (by omega))
  have HJ := hid (fun W v (q : Sl .i64 W v (fr.drop (hN s))) => ints_calls v (fr.drop (hN s)) W q (by omega))
  have HSp := hid (fun W v (q : Sl .i64 W v (half ++ fdT s rest fr)) => l6Spread_calls (dep s.toNat) v (half ++ fdT s rest fr) 65536 W d2 q k1 k2 (by rcases is3_sz (sz_nat hz).1 with e | e | e | e <;> rw [e] <;> decide))
  have HlT : Hid ((fdT s rest fr).length = hN s) := smA_len _ _ _ _
  have HlH := hid l1
  have HtG := hid (take_get fr (hN s))
  have HdG := hid (drop_get fr (hN s))
  have Hlt := hid lt
  have Hld := hid ld
  have HeT : Hid (smA (ahF s.toNat) (hN s) rest (fr.take (hN s)) = fdT s rest fr) := rfl
  have HeH : Hid (smB (ahF s.toNat) (hN s) rest (fr.take (hN s)) = fdH s rest fr) := rfl
  have HeK : Hid (sp (dep s.toNat) (half ++ fdT s rest fr) = fdK s half rest fr) := rfl
  rw [HeT.out, HeH.out] at HSe
  rw [HeK.out, ← d1, e2] at HSp
  rw [ld] at HJ
  rw [l1] at HI
  obtain ⟨a1, c1, rfl, -⟩ := id h1
  obtain ⟨a2, c2, rfl, -⟩ := id h2
  obtain ⟨a3, c3, rfl, hcc⟩ := id h3
  obtain ⟨bf, of, rfl, hbf, hcell⟩ := hcc hnf
  have hcap : fr.length ≤ c3 := hf
  rw [l1] at h1 hL
  rw [l2] at h2 hL
  rw [l3'] at hcell hcap ⊢
  have H1 := hid h1
  have H2 := hid h2
  have HC := hid hcell
  have hb0 := bmore (Below.refl _ w) (.cells #[.int .i64 0, .slice none 0 0, .slice none 0 0] 78)
  have HR0 := hid (Blk.new w #[.int .i64 0, .slice none 0 0, .slice none 0 0] 78)
  have HL0 := hid (hL.later hb0)
  have HB0 := hid hb0
  have hLl := hL.lt
  clear hc hc1 hc2 hz l1 l2 l3 b1 b2 b3 k1 k2 d1 d2 e1 e2 e3 e4 e5 l3' lt ld h1 h2 h3 hf hcc hcell hnf hL HeT HeH HeK hb0
  generalize hN s = m at *
  generalize fdT s rest fr = T at *
  generalize fdH s rest fr = F at *
  generalize fdK s half rest fr = K at *
  generalize fr.take m = FT at *
  generalize fr.drop m = FD at *
  obtain ⟨n, hn⟩ : ∃ n : Nat, 2 * m = n := ⟨_, rfl⟩
  have HN := hid hn
  have hnm : n - m = m := by omega
  have hmI : (m : Int) ≤ (c3 : Int) := by omega
  have hmI2 : (m : Int) ≤ (n : Int) := by omega
  have hnc : (n : Int) ≤ (c3 : Int) := by omega
  have hn16 : n ≤ 16 := by omega
  have hcm : ¬ c3 = m := by omega
  rw [hn] at hcap HC HSp ⊢
  clear hn
  have hwl : w.heap.size < (w.alloc (.cells #[.int .i64 0, .slice none 0 0, .slice none 0 0] 78)).heap.size := by simp
  obtain ⟨t0, t1, t2, _⟩ := HL0.out.three
  go_enter Try.func57, Try.ntmps57
  go_wp2_with fail
  generalize w.alloc (.cells #[.int .i64 0, .slice none 0 0, .slice none 0 0] 78) = wr at *
  have hL1 : Below wr.heap.size wr wr.drew := (Below.refl _ wr).drew
  have hLr := HL0.out.lt
  refine wp_region_noPanic ?_
  refine wp_region_held_drew (S := fun W => Below wr.heap.size wr W) (by kernel_rfl) ?_ (fun hHeld => ?_)
  · first | exact hL9 | exact hL1
  (refine wpAnyH_take (i := 0) (v := ?_) rfl (by kernel_rfl) (by kernel_rfl) (by kernel_rfl) (fun _ _ _ h => h) (Or.inl ⟨by rfl, ?_⟩) hHeld ?_; rotate_left; (intro w hSw; (have s0 := (hSw.cell (p := ⟨L, 0, none⟩) hLr).trans t0; have s2 := (hSw.cell (p := ⟨L, 2, none⟩) hLr).trans t2; clear hSw); (go_simp <;> with_reducible rfl)); simp only [List.getElem_toArray, List.getElem_cons_zero, Act.put, List.setIfInBounds_toArray, List.set_cons_zero, List.set_cons_succ])
  (refine wpAnyH_take (i := 1) (v := ?_) rfl (by kernel_rfl) (by kernel_rfl) (by kernel_rfl) (fun _ _ _ h => h) (Or.inl ⟨by rfl, ?_⟩) hHeld ?_; rotate_left; (intro w hSw; (have s0 := (hSw.cell (p := ⟨L, 0, none⟩) hLr).trans t0; have s2 := (hSw.cell (p := ⟨L, 2, none⟩) hLr).trans t2; clear hSw); (go_simp <;> with_reducible rfl)); simp only [List.getElem_toArray, List.getElem_cons_zero, List.getElem_cons_succ, Act.put, List.setIfInBounds_toArray, List.set_cons_zero, List.set_cons_succ])
  (refine wpAnyH_take (i := 2) (v := ?_) rfl (by kernel_rfl) (by kernel_rfl) (by kernel_rfl) (fun _ _ _ h => h) (Or.inl ⟨by rfl, ?_⟩) hHeld ?_; rotate_left; (intro w hSw; (have s0 := (hSw.cell (p := ⟨L, 0, none⟩) hLr).trans t0; have s2 := (hSw.cell (p := ⟨L, 2, none⟩) hLr).trans t2; clear hSw); (go_simp <;> with_reducible rfl)); simp only [List.getElem_toArray, List.getElem_cons_zero, List.getElem_cons_succ, Act.put, List.setIfInBounds_toArray, List.set_cons_zero, List.set_cons_succ])
  (refine wpAnyH_take (i := 3) (v := ?_) rfl (by kernel_rfl) (by kernel_rfl) (by kernel_rfl) (fun _ _ _ h => h) (Or.inl ⟨by rfl, ?_⟩) hHeld ?_; rotate_left; (intro w hSw; (have s0 := (hSw.cell (p := ⟨L, 0, none⟩) hLr).trans t0; have s2 := (hSw.cell (p := ⟨L, 2, none⟩) hLr).trans t2; clear hSw); (go_simp <;> with_reducible rfl)); simp only [List.getElem_toArray, List.getElem_cons_zero, List.getElem_cons_succ, Act.put, List.setIfInBounds_toArray, List.set_cons_zero, List.set_cons_succ])
  (refine wpAnyH_take (i := 4) (v := ?_) rfl (by kernel_rfl) (by kernel_rfl) (by kernel_rfl) (fun _ _ _ h => h) (Or.inl ⟨by rfl, ?_⟩) hHeld ?_; rotate_left; (intro w hSw; (have s0 := (hSw.cell (p := ⟨L, 0, none⟩) hLr).trans t0; have s2 := (hSw.cell (p := ⟨L, 2, none⟩) hLr).trans t2; clear hSw); (go_simp <;> with_reducible rfl)); simp only [List.getElem_toArray, List.getElem_cons_zero, List.getElem_cons_succ, Act.put, List.setIfInBounds_toArray, List.set_cons_zero, List.set_cons_succ])
  (refine wpAnyH_take (i := 5) (v := ?_) rfl (by kernel_rfl) (by kernel_rfl) (by kernel_rfl) (fun _ _ _ h => h) (Or.inl ⟨by rfl, ?_⟩) hHeld ?_; rotate_left; (intro w hSw; (have s0 := (hSw.cell (p := ⟨L, 0, none⟩) hLr).trans t0; have s2 := (hSw.cell (p := ⟨L, 2, none⟩) hLr).trans t2; clear hSw); (go_simp <;> with_reducible rfl)); simp only [List.getElem_toArray, List.getElem_cons_zero, List.getElem_cons_succ, Act.put, List.setIfInBounds_toArray, List.set_cons_zero, List.set_cons_succ])
  (refine wpAnyH_take (i := 6) (v := ?_) rfl (by kernel_rfl) (by kernel_rfl) (by kernel_rfl) (fun _ _ _ h => h) (Or.inl ⟨by rfl, ?_⟩) hHeld ?_; rotate_left; (intro w hSw; (have s0 := (hSw.cell (p := ⟨L, 0, none⟩) hLr).trans t0; have s2 := (hSw.cell (p := ⟨L, 2, none⟩) hLr).trans t2; clear hSw); (go_simp <;> with_reducible rfl)); simp only [List.getElem_toArray, List.getElem_cons_zero, List.getElem_cons_succ, Act.put, List.setIfInBounds_toArray, List.set_cons_zero, List.set_cons_succ])
  (refine wpAnyH_take (i := 7) (v := ?_) rfl (by kernel_rfl) (by kernel_rfl) (by kernel_rfl) (fun _ _ _ h => h) (Or.inl ⟨by rfl, ?_⟩) hHeld ?_; rotate_left; (intro w hSw; (have s0 := (hSw.cell (p := ⟨L, 0, none⟩) hLr).trans t0; have s2 := (hSw.cell (p := ⟨L, 2, none⟩) hLr).trans t2; clear hSw); (go_simp <;> with_reducible rfl)); simp only [List.getElem_toArray, List.getElem_cons_zero, List.getElem_cons_succ, Act.put, List.setIfInBounds_toArray, List.set_cons_zero, List.set_cons_succ])
  (refine wpAnyH_take (i := 8) (v := ?_) rfl (by kernel_rfl) (by kernel_rfl) (by kernel_rfl) (fun _ _ _ h => h) (Or.inl ⟨by rfl, ?_⟩) hHeld ?_; rotate_left; (intro w hSw; (have s0 := (hSw.cell (p := ⟨L, 0, none⟩) hLr).trans t0; have s2 := (hSw.cell (p := ⟨L, 2, none⟩) hLr).trans t2; clear hSw); (go_simp <;> with_reducible rfl)); simp only [List.getElem_toArray, List.getElem_cons_zero, List.getElem_cons_succ, Act.put, List.setIfInBounds_toArray, List.set_cons_zero, List.set_cons_succ])
  (refine wpAnyH_take (i := 9) (v := ?_) rfl (by kernel_rfl) (by kernel_rfl) (by kernel_rfl) (fun _ _ _ h => h) (Or.inl ⟨by rfl, ?_⟩) hHeld ?_; rotate_left; (intro w hSw; (have s0 := (hSw.cell (p := ⟨L, 0, none⟩) hLr).trans t0; have s2 := (hSw.cell (p := ⟨L, 2, none⟩) hLr).trans t2; clear hSw); (go_simp <;> with_reducible rfl)); simp only [List.getElem_toArray, List.getElem_cons_zero, List.getElem_cons_succ, Act.put, List.setIfInBounds_toArray, List.set_cons_zero, List.set_cons_succ])
  (refine wpAnyH_take (i := 10) (v := ?_) rfl (by kernel_rfl) (by kernel_rfl) (by kernel_rfl) (fun _ _ _ h => h) (Or.inl ⟨by rfl, ?_⟩) hHeld ?_; rotate_left; (intro w hSw; (have s0 := (hSw.cell (p := ⟨L, 0, none⟩) hLr).trans t0; have s2 := (hSw.cell (p := ⟨L, 2, none⟩) hLr).trans t2; clear hSw); (go_simp <;> with_reducible rfl)); simp only [List.getElem_toArray, List.getElem_cons_zero, List.getElem_cons_succ, Act.put, List.setIfInBounds_toArray, List.set_cons_zero, List.set_cons_succ])
  (refine wpAnyH_ready (rs := [11]) (by kernel_rfl) (by simp) ?_; refine AllReadyH.cons rfl (fun K hK => ?_) AllReadyH.nil; go_simp; (refine (HSe.out _ _ _ ((H2.out.later HB0.out).later hHeld) (sl_cells Hlt.out (Nat.lt_of_lt_of_le (Nat.lt_of_lt_of_le hbf HB0.out.size) hHeld.size) (fun i hi => by rw [hHeld.cell (p := ⟨bf, of + i, none⟩) (Nat.lt_of_lt_of_le hbf HB0.out.size), HB0.out.cell (p := ⟨bf, of + i, none⟩) hbf, HC.out i (by omega), HtG.out i, if_pos hi]))).mono ?_; rintro e w9 ⟨ga, gb, rfl, hk9⟩; have hL9 := bthen hHeld hk9.b); refine hK.out _ _ ?_ (fun hHeld => ?_); (first | exact hL9 | exact hL1); clear hK K; try dsimp only)
  (refine wpAnyH_take (i := 12) (v := ?_) rfl (by kernel_rfl) (by kernel_rfl) (by kernel_rfl) (fun _ _ _ h => h) (Or.inl ⟨by rfl, ?_⟩) hHeld ?_; rotate_left; (intro w hSw; (have s0 := (hSw.cell (p := ⟨L, 0, none⟩) hLr).trans t0; have s2 := (hSw.cell (p := ⟨L, 2, none⟩) hLr).trans t2; clear hSw); (go_simp <;> with_reducible rfl)); simp only [List.getElem_toArray, List.getElem_cons_zero, List.getElem_cons_succ, Act.put, List.setIfInBounds_toArray, List.set_cons_zero, List.set_cons_succ])
  (refine wpAnyH_take (i := 13) (v := ?_) rfl (by kernel_rfl) (by kernel_rfl) (by kernel_rfl) (fun _ _ _ h => h) (Or.inl ⟨by rfl, ?_⟩) hHeld ?_; rotate_left; (intro w hSw; (have s0 := (hSw.cell (p := ⟨L, 0, none⟩) hLr).trans t0; have s2 := (hSw.cell (p := ⟨L, 2, none⟩) hLr).trans t2; clear hSw); (go_simp <;> with_reducible rfl)); simp only [List.getElem_toArray, List.getElem_cons_zero, List.getElem_cons_succ, Act.put, List.setIfInBounds_toArray, List.set_cons_zero, List.set_cons_succ])
  (refine wpAnyH_take (i := 14) (v := ?_) rfl (by kernel_rfl) (by kernel_rfl) (by kernel_rfl) (fun _ _ _ h => h) (Or.inl ⟨by rfl, ?_⟩) hHeld ?_; rotate_left; (intro w hSw; (have s0 := (hSw.cell (p := ⟨L, 0, none⟩) hLr).trans t0; have s2 := (hSw.cell (p := ⟨L, 2, none⟩) hLr).trans t2; clear hSw); (go_simp <;> with_reducible rfl)); simp only [List.getElem_toArray, List.getElem_cons_zero, List.getElem_cons_succ, Act.put, List.setIfInBounds_toArray, List.set_cons_zero, List.set_cons_succ])
  (refine wpAnyH_take (i := 15) (v := ?_) rfl (by kernel_rfl) (by kernel_rfl) (by kernel_rfl) (fun _ _ _ h => h) (Or.inl ⟨by rfl, ?_⟩) hHeld ?_; rotate_left; (intro w hSw; (have s0 := (hSw.cell (p := ⟨L, 0, none⟩) hLr).trans t0; have s2 := (hSw.cell (p := ⟨L, 2, none⟩) hLr).trans t2; clear hSw); (go_simp <;> with_reducible rfl)); simp only [List.getElem_toArray, List.getElem_cons_zero, List.getElem_cons_succ, Act.put, List.setIfInBounds_toArray, List.set_cons_zero, List.set_cons_succ])
  (refine wpAnyH_take (i := 16) (v := ?_) rfl (by kernel_rfl) (by kernel_rfl) (by kernel_rfl) (fun _ _ _ h => h) (Or.inl ⟨by rfl, ?_⟩) hHeld ?_; rotate_left; (intro w hSw; (have s0 := (hSw.cell (p := ⟨L, 0, none⟩) hLr).trans t0; have s2 := (hSw.cell (p := ⟨L, 2, none⟩) hLr).trans t2; clear hSw); (go_simp <;> with_reducible rfl)); simp only [List.getElem_toArray, List.getElem_cons_zero, List.getElem_cons_succ, Act.put, List.setIfInBounds_toArray, List.set_cons_zero, List.set_cons_succ])
  refine wpAnyH_done (by kernel_rfl) ?_ _
  refine NoPanic.normal ?_
  have HB9 := hid hL9
  have HF9 := hid hk9.d
  have HT9 := hid hk9.s
  have hx1 := (hL9.cell (p := ⟨L, 1, none⟩) hLr).trans t1
  have hgb := (hk9.d.block gb rfl).2
  have hga := (hk9.s.block ga rfl).2
  have hsz9 := hL9.size
  have Hh9 := hid ((H1.out.later HB0.out).later hL9)
  clear hHeld hL1 hL9 hk9 t2 HSe H1 H2
  go_wp2_with fail
  refine (HI.out _ _ Hh9.out).mono ?_
  rintro e w10 ⟨g10, c10, rfl, ho10, hb10⟩
  have HO10 := hid ho10
  have HB10 := hid (bthen HB9.out hb10)
  have HF10 := hid (HF9.out.later hb10)
  have HT10 := hid (HT9.out.later hb10)
  have hg10 := ho10.block g10 rfl
  clear ho10 hb10 HB9 HF9 HT9 HI hx1 Hh9
  go_wp2_with (at_builtin; refine wpList_append_ints _ rfl _ _ rfl w9.heap.size _ half rfl HO10.out _ T rfl HT10.out.sl ?c0 ?c1 ?c2 ?_)
  case c0 => intro e; have := HlT.out; rw [e] at this; simp at this; omega
  case c1 => rw [HlT.out, HlH.out]; omega
  case c2 => omega
  intro g11 c11 n11 w11 hn11 ho11 hg11 hat11
  have hn11' : n11 = n := by have := HlT.out; have := HlH.out; have := HN.out; first | omega | (simp only [List.length_append] at hn11; omega)
  rw [hn11'] at ho11 ⊢
  have HO11 := hid ho11
  have hsz11 := hg11.size
  have HF11 := hid (Ow.keptNe HF10.out hg11 (fun j e => by simp [Value.ownBlock] at e ⊢; omega))
  have HB11 := hid (HB10.out.trans (below_of_grown hg11 HB10.out.size (fun j e => by simp [Value.ownBlock] at e; omega)))
  clear hn11 hn11' ho11 hg11 hat11 HO10 HB10 HF10 HT10
  have hS0 : w11.drew.cell? ⟨L, 0, none⟩ = some (.int .i64 s) := (HB11.out.cell (p := ⟨L, 0, none⟩) hLr).trans t0
  have HR11 := hid (HR0.out.later HB11.out)
  have HL11 := hid (HL0.out.later HB11.out)
  have hRl := HR0.out.lt
  have hLR : L ≠ w.heap.size := by omega
  have hw11 := HB11.out.size
  have HFD11 : Hid (Sl .i64 w11.drew (.slice (some ⟨bf, of + m, none⟩) m (c3 - m)) FD) := sl_cells Hld.out (Nat.lt_of_lt_of_le (Nat.lt_of_lt_of_le hbf HB0.out.size) hw11) (fun i hi => by
    rw [show w11.drew.cell? ⟨bf, of + m + i, none⟩ = w11.cell? ⟨bf, of + m + i, none⟩ from rfl, HB11.out.cell (p := ⟨bf, of + m + i, none⟩) (Nat.lt_of_lt_of_le hbf HB0.out.size), HB0.out.cell (p := ⟨bf, of + m + i, none⟩) hbf, Nat.add_assoc, HC.out (m + i) (by omega), HdG.out i])
  have HB12 := hid (bthen HB0.out HB11.out)
  clear t0 t1 HL0 HR0 HB0 HC HtG HdG Hlt
  have hd11 : Below w11.heap.size w11 w11.drew := (Below.refl _ w11).drew
  go_wp2_with fail
  refine wp_region_noPanic ?_
  refine wp_region_held_drew (S := fun W => W.cell? ⟨L, 0, none⟩ = some (.int .i64 s)) (by kernel_rfl) (by first | exact hS14 | exact hS13 | exact hS12 | exact hS0) (fun hHeld => ?_)
  (refine wpAnyH_take (i := 0) (v := ?_) rfl (by kernel_rfl) (by kernel_rfl) (by kernel_rfl) (fun _ _ _ h => h) (Or.inl ⟨by rfl, ?_⟩) hHeld ?_; rotate_left; (intro w hSw; (have s0 := hSw); (go_simp <;> with_reducible rfl)); simp only [List.getElem_toArray, List.getElem_cons_zero, Act.put, List.setIfInBounds_toArray, List.set_cons_zero, List.set_cons_succ])
  (refine wpAnyH_take (i := 1) (v := ?_) rfl (by kernel_rfl) (by kernel_rfl) (by kernel_rfl) (fun _ _ _ h => h) (Or.inl ⟨by rfl, ?_⟩) hHeld ?_; rotate_left; (intro w hSw; (have s0 := hSw); (go_simp <;> with_reducible rfl)); simp only [List.getElem_toArray, List.getElem_cons_zero, List.getElem_cons_succ, Act.put, List.setIfInBounds_toArray, List.set_cons_zero, List.set_cons_succ])
  (refine wpAnyH_take (i := 2) (v := ?_) rfl (by kernel_rfl) (by kernel_rfl) (by kernel_rfl) (fun _ _ _ h => h) (Or.inl ⟨by rfl, ?_⟩) hHeld ?_; rotate_left; (intro w hSw; (have s0 := hSw); (go_simp <;> with_reducible rfl)); simp only [List.getElem_toArray, List.getElem_cons_zero, List.getElem_cons_succ, Act.put, List.setIfInBounds_toArray, List.set_cons_zero, List.set_cons_succ])
  (refine wpAnyH_take (i := 3) (v := ?_) rfl (by kernel_rfl) (by kernel_rfl) (by kernel_rfl) (fun _ _ _ h => h) (Or.inl ⟨by rfl, ?_⟩) hHeld ?_; rotate_left; (intro w hSw; (have s0 := hSw); (go_simp <;> with_reducible rfl)); simp only [List.getElem_toArray, List.getElem_cons_zero, List.getElem_cons_succ, Act.put, List.setIfInBounds_toArray, List.set_cons_zero, List.set_cons_succ])
  (refine wpAnyH_take (i := 4) (v := ?_) rfl (by kernel_rfl) (by kernel_rfl) (by kernel_rfl) (fun _ _ _ h => h) (Or.inl ⟨by rfl, ?_⟩) hHeld ?_; rotate_left; (intro w hSw; (have s0 := hSw); (go_simp <;> with_reducible rfl)); simp only [List.getElem_toArray, List.getElem_cons_zero, List.getElem_cons_succ, Act.put, List.setIfInBounds_toArray, List.set_cons_zero, List.set_cons_succ])
  (refine wpAnyH_take (i := 5) (v := ?_) rfl (by kernel_rfl) (by kernel_rfl) (by kernel_rfl) (fun _ _ _ h => h) (Or.inl ⟨by rfl, ?_⟩) hHeld ?_; rotate_left; (intro w hSw; (have s0 := hSw); (go_simp <;> with_reducible rfl)); simp only [List.getElem_toArray, List.getElem_cons_zero, List.getElem_cons_succ, Act.put, List.setIfInBounds_toArray, List.set_cons_zero, List.set_cons_succ])
  (refine wpAnyH_take (i := 6) (v := ?_) rfl (by kernel_rfl) (by kernel_rfl) (by kernel_rfl) (fun _ _ _ h => h) (Or.inl ⟨by rfl, ?_⟩) hHeld ?_; rotate_left; (intro w hSw; (have s0 := hSw); (go_simp <;> with_reducible rfl)); simp only [List.getElem_toArray, List.getElem_cons_zero, List.getElem_cons_succ, Act.put, List.setIfInBounds_toArray, List.set_cons_zero, List.set_cons_succ])
  (refine wpAnyH_take (i := 7) (v := ?_) rfl (by kernel_rfl) (by kernel_rfl) (by kernel_rfl) (fun _ _ _ h => h) (Or.inl ⟨by rfl, ?_⟩) hHeld ?_; rotate_left; (intro w hSw; (have s0 := hSw); (go_simp <;> with_reducible rfl)); simp only [List.getElem_toArray, List.getElem_cons_zero, List.getElem_cons_succ, Act.put, List.setIfInBounds_toArray, List.set_cons_zero, List.set_cons_succ])
  (refine wpAnyH_take (i := 10) (v := ?_) rfl (by kernel_rfl) (by kernel_rfl) (by kernel_rfl) (fun _ _ _ h => h) (Or.inl ⟨by rfl, ?_⟩) hHeld ?_; rotate_left; (intro w hSw; (have s0 := hSw); (go_simp <;> with_reducible rfl)); simp only [List.getElem_toArray, List.getElem_cons_zero, List.getElem_cons_succ, Act.put, List.setIfInBounds_toArray, List.set_cons_zero, List.set_cons_succ])
  refine wpAnyH_ready (rs := [8]) (by kernel_rfl) (by simp) ?_
  refine (AllReadyH.cons rfl (fun K hK => ?_) AllReadyH.nil)
  go_simp
  (refine (HJ.out _ _ HFD11.out).mono ?_; rintro e w12 ⟨g12, c12, rfl, ho12, hb12'⟩; have hb12 := bthen hd11 hb12'; have hS12 := (hb12'.cell (p := ⟨L, 0, none⟩) (show L < w11.heap.size by omega)).trans hS0)
  refine hK.out _ _ (by first | exact hS14 | exact hS13 | exact hS12 | exact hS0) (fun hHeld => ?_)
  clear hK K
  try dsimp only
  (refine wpAnyH_take (i := 9) (v := ?_) rfl (by kernel_rfl) (by kernel_rfl) (by kernel_rfl) (fun _ _ _ h => h) (Or.inl ⟨by rfl, ?_⟩) hHeld ?_; rotate_left; (intro w hSw; (have s0 := hSw); (go_simp <;> with_reducible rfl)); simp only [List.getElem_toArray, List.getElem_cons_zero, List.getElem_cons_succ, Act.put, List.setIfInBounds_toArray, List.set_cons_zero, List.set_cons_succ])
  refine wpAnyH_ready (rs := [11]) (by kernel_rfl) (by simp) ?_
  refine (AllReadyH.cons rfl (fun K hK => ?_) AllReadyH.nil)
  go_simp
  (refine (HSp.out _ _ (HO11.out.sl.later hb12)).mono ?_; rintro e w13 ⟨g13, c13, rfl, ho13, hb13⟩; have hS13 := (hb13.cell (p := ⟨L, 0, none⟩) (show L < w12.heap.size by have := hb12.size; omega)).trans hS12; have hR13 := (HR11.out.later hb12).later hb13; obtain ⟨r0, r1, r2, q0, q1, q2⟩ := hR13.three; have hL13 := (HL11.out.later hb12).later hb13)
  refine hK.out _ _ (by first | exact hS14 | exact hS13 | exact hS12 | exact hS0) (fun hHeld => ?_)
  clear hK K
  try dsimp only
  refine wpAnyH_ready (rs := [12]) (by kernel_rfl) (by simp) ?_
  refine (AllReadyH.cons rfl (fun K hK => ?_) AllReadyH.nil)
  go_simp
  (have hS14 := ((((hL13.other (b' := w.heap.size) (Ne.symm hLR) 0 (.int .i64 s)).other (b' := w.heap.size) (Ne.symm hLR) 1 (.slice (some ⟨gb, 0, none⟩) m m)).other (b' := w.heap.size) (Ne.symm hLR) 2 (.slice (some ⟨g12, 0, none⟩) m c12)).three).1)
  refine hK.out _ _ (by first | exact hS14 | exact hS13 | exact hS12 | exact hS0) (fun hHeld => ?_)
  clear hK K
  try simp only [List.getElem_toArray, List.getElem_cons_zero, List.getElem_cons_succ, Act.put, List.setIfInBounds_toArray, List.set_cons_zero, List.set_cons_succ]
  (refine wpAnyH_take (i := 13) (v := ?_) rfl (by kernel_rfl) (by kernel_rfl) (by kernel_rfl) (fun _ _ _ h => h) (Or.inl ⟨by rfl, ?_⟩) hHeld ?_; rotate_left; (intro w hSw; (have s0 := hSw); (go_simp <;> with_reducible rfl)); simp only [List.getElem_toArray, List.getElem_cons_zero, List.getElem_cons_succ, Act.put, List.setIfInBounds_toArray, List.set_cons_zero, List.set_cons_succ])
  refine wpAnyH_done (by kernel_rfl) ?_ _
  refine NoPanic.normal ?_
  have hgg : gb ≠ g12 := by (have h9 := (ho12.block g12 rfl).1; have h8 : w11.drew.heap.size = w11.heap.size := rfl; omega)
  have hF14 := (((HF11.out.later hb12).later hb13).over hwl (grown_set3 w13 w.heap.size (.int .i64 s) (.slice (some ⟨gb, 0, none⟩) m m) (.slice (some ⟨g12, 0, none⟩) m c12))).mono (Nat.le_of_lt hwl)
  have hD14 := ((ho12.later hb13).over (show w.heap.size < w11.heap.size by omega) (grown_set3 w13 w.heap.size (.int .i64 s) (.slice (some ⟨gb, 0, none⟩) m m) (.slice (some ⟨g12, 0, none⟩) m c12))).mono (show w.heap.size ≤ w11.heap.size by omega)
  have hK14 := (ho13.over (show w.heap.size < w12.heap.size by (have := hb12.size; omega)) (grown_set3 w13 w.heap.size (.int .i64 s) (.slice (some ⟨gb, 0, none⟩) m m) (.slice (some ⟨g12, 0, none⟩) m c12))).mono (show w.heap.size ≤ w12.heap.size by (have := hb12.size; omega))
  have hB14 := below_cell (below_cell (below_cell (bthen (bthen HB12.out hb12) hb13) (Nat.le_refl _) 0 (.int .i64 s)) (Nat.le_refl _) 1 (.slice (some ⟨gb, 0, none⟩) m m)) (Nat.le_refl _) 2 (.slice (some ⟨g12, 0, none⟩) m c12)
  go_wp2
  exact bodyPost_ret (v := .tuple #[.agg #[.int .i64 s, .slice (some ⟨gb, 0, none⟩) m m, .slice (some ⟨g12, 0, none⟩) m c12], .slice (some ⟨g13, 0, none⟩) n c13]) (by simp [results, Try.results57, go_sem, r0, r1, r2]) rfl ⟨_, _, _, rfl, ⟨hF14, hD14, fun g x1 x2 => by simp [Value.ownBlock] at x1 x2; omega⟩, hK14, hB14⟩
end Go.Proofs.Ytodfkicmmcfkaaa.LapU
