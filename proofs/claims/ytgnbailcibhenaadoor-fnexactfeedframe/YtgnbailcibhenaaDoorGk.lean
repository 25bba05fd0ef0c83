/- The model feeds a frame. Conditions: a right lap and a frame of samples of its size, or any at the face. || The model plays a block. Conditions: a right synth and coefficients of its size. || FeedFrame and PlayBlock of the model: what they return at every argument of lists of at most 1048576 numbers. -/
import Derived.Test.YtgnbailcibhenaaDoorLapT
import Derived.Test.YtgnbailcibhenaaDoorGg
namespace Go.Proofs.YtgnbailcibhenaaDoor.LapU
open Go.ChangeShapes Go.WideShapes Go.ChangeAt Go.RowKit Go.Proofs.YtgnbailcibhenaaDoor.Num Go.Proofs.YtgnbailcibhenaaDoor.Sli Go.Proofs.YtgnbailcibhenaaDoor.App Go.Proofs.YtgnbailcibhenaaDoor.Div Go.Proofs.YtgnbailcibhenaaDoor.Samp Go.Proofs.YtgnbailcibhenaaDoor.SampF Go.Proofs.YtgnbailcibhenaaDoor.Blk Go.Proofs.YtgnbailcibhenaaDoor.TurM Go.Proofs.YtgnbailcibhenaaDoor.HalM Go.Proofs.YtgnbailcibhenaaDoor.LapM Go.Proofs.YtgnbailcibhenaaDoor.LapN Go.Proofs.YtgnbailcibhenaaDoor.IntL Go.Proofs.YtgnbailcibhenaaDoor.IntA Go.Proofs.YtgnbailcibhenaaDoor.HalS Go.Proofs.YtgnbailcibhenaaDoor.SprS Go.Proofs.YtgnbailcibhenaaDoor.GatS Go.Proofs.YtgnbailcibhenaaDoor.LapS Go.Proofs.YtgnbailcibhenaaDoor.LapT

theorem sl_cells {w : World} {b o c m : Nat} {xs : List Int} (hx : xs.length = m) (hb : b < w.heap.size) (hc : ∀ i, i < m → w.cell? ⟨b, o + i, none⟩ = some (.int .i64 (xs.getD i 0))) : Sl .i64 w (.slice (some ⟨b, o, none⟩) m c) xs := by
  subst hx
  exact ⟨_, _, rfl, fun _ => ⟨b, o, rfl, hb, hc⟩⟩
set_option maxRecDepth 100000 in
set_option maxHeartbeats 4000000 in
theorem l7Feed_calls (L : Nat) (s : Int) (vh vr vf : Value) (half rest fr : List Int) (w : World) (hL : Blk w L #[.int .i64 s, vh, vr] 29) (h1 : Sl .i64 w vh half) (h2 : Sl .i64 w vr rest) (h3 : Sl .i64 w vf fr) (hf : Fits vf) (hc : fdC s half rest fr = 0) :
    Calls Tryd.prog 66 #[.pointer (some ⟨L, 0, none⟩), vf] w fun e w' => ∃ u t k, e = .returned (.tuple #[.agg #[.int .i64 s, u, t], k]) ∧ TW w.heap.size u t (fdH s rest fr) (fr.drop (hN s)) w' ∧ OwI w.heap.size w' k (fdK s half rest fr) ∧ Below w.heap.size w w' := by
  obtain ⟨hc1, hc2⟩ := fd_ok hc
  obtain ⟨hz, l1, l2, b1, b2⟩ := lf_ok hc1
  obtain ⟨-, l3, b3⟩ := sm_ok hc2
  obtain ⟨-, e1, e2, e3, e4, e5⟩ := sz_nat hz
  obtain ⟨k1, k2⟩ := block_ok hc
  obtain ⟨d1, d2⟩ := dep_of hz
  have hm0 : s.tdiv 2 = (hN s : Int) := by rw [Int.tdiv_eq_ediv_of_nonneg (by omega)]; exact e5
  have hbd : 4 ≤ s ∧ s ≤ 16 := by omega
  have hm8 : hN s ≤ 8 ∧ 2 ≤ hN s := by omega
  have l3' : fr.length = 2 * hN s := by omega
  have hnf : fr ≠ [] := by intro e; rw [e] at l3'; simp at l3'; omega
  have lt : (fr.take (hN s)).length = hN s := by rw [List.length_take]; omega
  have ld : (fr.drop (hN s)).length = hN s := by rw [List.length_drop]; omega
  have HSe := hid (fun W v1 v2 (q1 : Sl .i64 W v1 rest) (q2 : Sl .i64 W v2 (fr.take (hN s))) => seamAhead_calls s v1 v2 rest (fr.take (hN s)) W hz q1 q2 l2 lt (b2.lim.mono (by omega)) ((smL_take b3 _).lim.mono (by omega)))
  have HI := hid (fun W v (q : Sl .i64 W v half) => ints_calls v half W q (by omega))
  have HJ := hid (fun W v (q : Sl .i64 W v (fr.drop (hN s))) => ints_calls v (fr.drop (hN s)) W q (by omega))
  have HSp := hid (fun W v (q : Sl .i64 W v (half ++ fdT s rest fr)) => l6Spread_calls (dep s.toNat) v (half ++ fdT s rest fr) 65536 W d2 q k1 k2 (by rcases is3_sz (sz_nat hz).1 with e | e | e | e <;> rw [e] <;> decide))
  have HlT : Hid ((fdT s rest fr).length = hN s) := smA_len _ _ _ _
  have HlH := hid l1
  have HtG := hid (take_get fr (hN s))
  have HdG := hid (drop_get fr (hN s))
  have Hlt := hid lt
  have Hld := hid ld
  have HeT : Hid (smA (ahF s.toNat) (hN s) rest (fr.take (hN s)) = fdT s rest fr) := rfl
  have HeH : Hid (smB (ahF s.toNat) (hN s) rest (fr.take (hN s)) = fdH s rest fr) := rfl
  have HeK : Hid (sp (dep s.toNat) (half ++ fdT s rest fr) = fdK s half rest fr) := rfl
  rw [HeT.out, HeH.out] at HSe
  rw [HeK.out, ← d1, e2] at HSp
  rw [ld] at HJ
  rw [l1] at HI
  obtain ⟨a1, c1, rfl, -⟩ := id h1
  obtain ⟨a2, c2, rfl, -⟩ := id h2
  obtain ⟨a3, c3, rfl, hcc⟩ := id h3
  obtain ⟨bf, of, rfl, hbf, hcell⟩ := hcc hnf
  have hcap : fr.length ≤ c3 := hf
  rw [l1] at h1 hL
  rw [l2] at h2 hL
  rw [l3'] at hcell hcap ⊢
  have H1 := hid h1
  have H2 := hid h2
  have HC := hid hcell
  have hb0 := bmore (Below.refl _ w) (.cells #[.int .i64 0, .slice none 0 0, .slice none 0 0] 29)
  have HR0 := hid (Blk.new w #[.int .i64 0, .slice none 0 0, .slice none 0 0] 29)
  have HL0 := hid (hL.later hb0)
  have HB0 := hid hb0
  have hLl := hL.lt
  clear hc hc1 hc2 hz l1 l2 l3 b1 b2 b3 k1 k2 d1 d2 e1 e2 e3 e4 e5 l3' lt ld h1 h2 h3 hf hcc hcell hnf hL HeT HeH HeK hb0
  generalize hN s = m at *
  generalize fdT s rest fr = T at *
  generalize fdH s rest fr = F at *
  generalize fdK s half rest fr = K at *
  generalize fr.take m = FT at *
  generalize fr.drop m = FD at *
  obtain ⟨n, hn⟩ : ∃ n : Nat, 2 * m = n := ⟨_, rfl⟩
  have HN := hid hn
  have hnm : n - m = m := by omega
  have hmI : (m : Int) ≤ (c3 : Int) := by omega
  have hmI2 : (m : Int) ≤ (n : Int) := by omega
  have hnc : (n : Int) ≤ (c3 : Int) := by omega
  have hn16 : n ≤ 16 := by omega
  have hcm : ¬ c3 = m := by omega
  rw [hn] at hcap HC HSp ⊢
  clear hn
  have hwl : w.heap.size < (w.alloc (.cells #[.int .i64 0, .slice none 0 0, .slice none 0 0] 29)).heap.size := by simp
  obtain ⟨t0, t1, t2, _⟩ := HL0.out.three
  go_enter Tryd.func66, Tryd.ntmps66
  go_wp2_with fail
  generalize w.alloc (.cells #[.int .i64 0, .slice none 0 0, .slice none 0 0] 29) = wr at *
  have hL1 : Below wr.heap.size wr wr.drew := (Below.refl _ wr).drew
  have hLr := HL0.out.lt
  refine wp_region_noPanic ?_
  refine wp_region_held_drew (S := fun W => Below wr.heap.size wr W) (by kernel_rfl) ?_ (fun hHeld => ?_)
  · first | exact hL9 | exact hL1
  (refine wpAnyH_take (i := 0) (v := ?_) rfl (by kernel_rfl) (by kernel_rfl) (by kernel_rfl) (fun _ _ _ h => h) (Or.inl ⟨by rfl, ?_⟩) hHeld ?_; rotate_left; (intro w hSw; (have s0 := (hSw.cell (p := ⟨L, 0, none⟩) hLr).trans t0; have s2 := (hSw.cell (p := ⟨L, 2, none⟩) hLr).trans t2; clear hSw); (go_simp <;> with_reducible rfl)); simp only [List.getElem_toArray, List.getElem_cons_zero, Act.put, List.setIfInBounds_toArray, List.set_cons_zero, List.set_cons_succ])
  (refine wpAnyH_take (i := 1) (v := ?_) rfl (by kernel_rfl) (by kernel_rfl) (by kernel_rfl) (fun _ _ _ h => h) (Or.inl ⟨by rfl, ?_⟩) hHeld ?_; rotate_left; (intro w hSw; (have s0 := (hSw.cell (p := ⟨L, 0, none⟩) hLr).trans t0; have s2 := (hSw.cell (p := ⟨L, 2, none⟩) hLr).trans t2; clear hSw); (go_simp <;> with_reducible rfl)); simp only [List.getElem_toArray, List.getElem_cons_zero, List.getElem_cons_succ, Act.put, List.setIfInBounds_toArray, List.set_cons_zero, List.set_cons_succ])
  (refine wpAnyH_take (i := 2) (v := ?_) rfl (by kernel_rfl) (by kernel_rfl) (by kernel_rfl) (fun _ _ _ h => h) (Or.inl ⟨by rfl, ?_⟩) hHeld ?_; rotate_left; (intro w hSw; (have s0 := (hSw.cell (p := ⟨L, 0, none⟩) hLr).trans t0; have s2 := (hSw.cell (p := ⟨L, 2, none⟩) hLr).trans t2; clear hSw); (go_simp <;> with_reducible rfl)); simp only [List.getElem_toArray, List.getElem_cons_zero, List.getElem_cons_succ, Act.put, List.setIfInBounds_toArray, List.set_cons_zero, List.set_cons_succ])
  (refine wpAnyH_take (i := 3) (v := ?_) rfl (by kernel_rfl) (by kernel_rfl) (by kernel_rfl) (fun _ _ _ h => h) (Or.inl ⟨by rfl, ?_⟩) hHeld ?_; rotate_left; (intro w hSw; (have s0 := (hSw.cell (p := ⟨L, 0, none⟩) hLr).trans t0; have s2 := (hSw.cell (p := ⟨L, 2, none⟩) hLr).trans t2; clear hSw); (go_simp <;> with_reducible rfl)); simp only [List.getElem_toArray, List.getElem_cons_zero, List.getElem_cons_succ, Act.put, List.setIfInBounds_toArray, List.set_cons_zero, List.set_cons_succ])
  (refine wpAnyH_take (i := 4) (v := ?_) rfl (by kernel_rfl) (by kernel_rfl) (by kernel_rfl) (fun _ _ _ h => h) (Or.inl ⟨by rfl, ?_⟩) hHeld ?_; rotate_left; (intro w hSw; (have s0 := (hSw.cell (p := ⟨L, 0, none⟩) hLr).trans t0; have s2 := (hSw.cell (p := ⟨L, 2, none⟩) hLr).trans t2; clear hSw); (go_simp <;> with_reducible rfl)); simp only [List.getElem_toArray, List.getElem_cons_zero, List.getElem_cons_succ, Act.put, List.setIfInBounds_toArray, List.set_cons_zero, List.set_cons_succ])
  (refine wpAnyH_take (i := 5) (v := ?_) rfl (by kernel_rfl) (by kernel_rfl) (by kernel_rfl) (fun _ _ _ h => h) (Or.inl ⟨by rfl, ?_⟩) hHeld ?_; rotate_left; (intro w hSw; (have s0 := (hSw.cell (p := ⟨L, 0, none⟩) hLr).trans t0; have s2 := (hSw.cell (p := ⟨L, 2, none⟩) hLr).trans t2; clear hSw); (go_simp <;> with_reducible rfl)); simp only [List.getElem_toArray, List.getElem_cons_zero, List.getElem_cons_succ, Act.put, List.setIfInBounds_toArray, List.set_cons_zero, List.set_cons_succ])
  (refine wpAnyH_take (i := 6) (v := ?_) rfl (by kernel_rfl) (by kernel_rfl) (by kernel_rfl) (fun _ _ _ h => h) (Or.inl ⟨by rfl, ?_⟩) hHeld ?_; rotate_left; (intro w hSw; (have s0 := (hSw.cell (p := ⟨L, 0, none⟩) hLr).trans t0; have s2 := (hSw.cell (p := ⟨L, 2, none⟩) hLr).trans t2; clear hSw); (go_simp <;> with_reducible rfl)); simp only [List.getElem_toArray, List.getElem_cons_zero, List.getElem_cons_succ, Act.put, List.setIfInBounds_toArray, List.set_cons_zero, List.set_cons_succ])
  (refine wpAnyH_take (i := 7) (v := ?_) rfl (by kernel_rfl) (by kernel_rfl) (by kernel_rfl) (fun _ _ _ h => h) (Or.inl ⟨by rfl, ?_⟩) hHeld ?_; rotate_left; (intro w hSw; (have s0 := (hSw.cell (p := ⟨L, 0, none⟩) hLr).trans t0; have s2 := (hSw.cell (p := ⟨L, 2, none⟩) hLr).trans t2; clear hSw); (go_simp <;> with_reducible rfl)); simp only [List.getElem_toArray, List.getElem_cons_zero, List.getElem_cons_succ, Act.put, List.setIfInBounds_toArray, List.set_cons_zero, List.set_cons_succ])
  (refine wpAnyH_take (i := 8) (v := ?_) rfl (by kernel_rfl) (by kernel_rfl) (by kernel_rfl) (fun _ _ _ h => h) (Or.inl ⟨by rfl, ?_⟩) hHeld ?_; rotate_left; (intro w hSw; (have s0 := (hSw.cell (p := ⟨L, 0, none⟩) hLr).trans t0; have s2 := (hSw.cell (p := ⟨L, 2, none⟩) hLr).trans t2; clear hSw); (go_simp <;> with_reducible rfl)); simp only [List.getElem_toArray, List.getElem_cons_zero, List.getElem_cons_succ, Act.put, List.setIfInBounds_toArray, List.set_cons_zero, List.set_cons_succ])
  (refine wpAnyH_take (i := 9) (v := ?_) rfl (by kernel_rfl) (by kernel_rfl) (by kernel_rfl) (fun _ _ _ h => h) (Or.inl ⟨by rfl, ?_⟩) hHeld ?_; rotate_left; (intro w hSw; (have s0 := (hSw.cell (p := ⟨L, 0, none⟩) hLr).trans t0; have s2 := (hSw.cell (p := ⟨L, 2, none⟩) hLr).trans t2; clear hSw); (go_simp <;> with_reducible rfl)); simp only [List.getElem_toArray, List.getElem_cons_zero, List.getElem_cons_succ, Act.put, List.setIfInBounds_toArray, List.set_cons_zero, List.set_cons_succ])
  (refine wpAnyH_take (i := 10) (v := ?_) rfl (by kernel_rfl) (by kernel_rfl) (by kernel_rfl) (fun _ _ _ h => h) (Or.inl ⟨by rfl, ?_⟩) hHeld ?_; rotate_left; (intro w hSw; (have s0 := (hSw.cell (p := ⟨L, 0, none⟩) hLr).trans t0; have s2 := (hSw.cell (p := ⟨L, 2, none⟩) hLr).trans t2; clear hSw); (go_simp <;> with_reducible rfl)); simp only [List.getElem_toArray, List.getElem_cons_zero, List.getElem_cons_succ, Act.put, List.setIfInBounds_toArray, List.set_cons_zero, List.set_cons_succ])
  (refine wpAnyH_ready (rs := [11]) (by kernel_rfl) (by simp) ?_; refine AllReadyH.cons rfl (fun K hK => ?_) AllReadyH.nil; go_simp; (refine (HSe.out _ _ _ ((H2.out.later HB0.out).later hHeld) (sl_cells Hlt.out (Nat.lt_of_lt_of_le (Nat.lt_of_lt_of_le hbf HB0.out.size) hHeld.size) (fun i hi => by rw [hHeld.cell (p := ⟨bf, of + i, none⟩) (Nat.lt_of_lt_of_le hbf HB0.out.size), HB0.out.cell (p := ⟨bf, of + i, none⟩) hbf, HC.out i (by omega), HtG.out i, if_pos hi]))).mono ?_; rintro e w9 ⟨ga, gb, rfl, hk9⟩; have hL9 := bthen hHeld hk9.b); refine hK.out _ _ ?_ (fun hHeld => ?_); (first | exact hL9 | exact hL1); clear hK K; try dsimp only)
  (refine wpAnyH_take (i := 12) (v := ?_) rfl (by kernel_rfl) (by kernel_rfl) (by kernel_rfl) (fun _ _ _ h => h) (Or.inl ⟨by rfl, ?_⟩) hHeld ?_; rotate_left; (intro w hSw; (have s0 := (hSw.cell (p := ⟨L, 0, none⟩) hLr).trans t0; have s2 := (hSw.cell (p := ⟨L, 2, none⟩) hLr).trans t2; clear hSw); (go_simp <;> with_reducible rfl)); simp only [List.getElem_toArray, List.getElem_cons_zero, List.getElem_cons_succ, Act.put, List.setIfInBounds_toArray, List.set_cons_zero, List.set_cons_succ])
  (refine wpAnyH_take (i := 13) (v := ?_) rfl (by kernel_rfl) (by kernel_rfl) (by kernel_rfl) (fun _ _ _ h => h) (Or.inl ⟨by rfl, ?_⟩) hHeld ?_; rotate_left; (intro w hSw; (have s0 := (hSw.cell (p := ⟨L, 0, none⟩) hLr).trans t0; have s2 := (hSw.cell (p := ⟨L, 2, none⟩) hLr).trans t2; clear hSw); (go_simp <;> with_reducible rfl)); simp only [List.getElem_toArray, List.getElem_cons_zero, List.getElem_cons_succ, Act.put, List.setIfInBounds_toArray, List.set_cons_zero, List.set_cons_succ])
  (refine wpAnyH_take (i := 14) (v := ?_) rfl (by kernel_rfl) (by kernel_rfl) (by kernel_rfl) (fun _ _ _ h => h) (Or.inl ⟨by rfl, ?_⟩) hHeld ?_; rotate_left; (intro w hSw; (have s0 := (hSw.cell (p := ⟨L, 0, none⟩) hLr).trans t0; have s2 := (hSw.cell (p := ⟨L, 2, none⟩) hLr).trans t2; clear hSw); (go_simp <;> with_reducible rfl)); simp only [List.getElem_toArray, List.getElem_cons_zero, List.getElem_cons_succ, Act.put, List.setIfInBounds_toArray, List.set_cons_zero, List.set_cons_succ])
  (refine wpAnyH_take (i := 15) (v := ?_) rfl (by kernel_rfl) (by kernel_rfl) (by kernel_rfl) (fun _ _ _ h => h) (Or.inl ⟨by rfl, ?_⟩) hHeld ?_; rotate_left; (intro w hSw; (have s0 := (hSw.cell (p := ⟨L, 0, none⟩) hLr).trans t0; have s2 := (hSw.cell (p := ⟨L, 2, none⟩) hLr).trans t2; clear hSw); (go_simp <;> with_reducible rfl)); simp only [List.getElem_toArray, List.getElem_cons_zero, List.getElem_cons_succ, Act.put, List.setIfInBounds_toArray, List.set_cons_zero, List.set_cons_succ])
  (refine wpAnyH_take (i := 16) (v := ?_) rfl (by kernel_rfl) (by kernel_rfl) (by kernel_rfl) (fun _ _ _ h => h) (Or.inl ⟨by rfl, ?_⟩) hHeld ?_; rotate_left; (intro w hSw; (have s0 := (hSw.cell (p := ⟨L, 0, none⟩) hLr).trans t0; have s2 := (hSw.cell (p := ⟨L, 2, none⟩) hLr).trans t2; clear hSw); (go_simp <;> with_reducible rfl)); simp only [List.getElem_toArray, List.getElem_cons_zero, List.getElem_cons_succ, Act.put, List.setIfInBounds_toArray, List.set_cons_zero, List.set_cons_succ])
  refine wpAnyH_done (by kernel_rfl) ?_ _
  refine NoPanic.normal ?_
  have HB9 := hid hL9
  have HF9 := hid hk9.d
  have HT9 := hid hk9.s
  have hx1 := (hL9.cell (p := ⟨L, 1, none⟩) hLr).trans t1
  have hgb := (hk9.d.block gb rfl).2
  have hga := (hk9.s.block ga rfl).2
  have hsz9 := hL9.size
  have Hh9 := hid ((H1.out.later HB0.out).later hL9)
  clear hHeld hL1 hL9 hk9 t2 HSe H1 H2
  go_wp2_with fail
  refine (HI.out _ _ Hh9.out).mono ?_
  rintro e w10 ⟨g10, c10, rfl, ho10, hb10⟩
  have HO10 := hid ho10
  have HB10 := hid (bthen HB9.out hb10)
  have HF10 := hid (HF9.out.later hb10)
  have HT10 := hid (HT9.out.later hb10)
  have hg10 := ho10.block g10 rfl
  clear ho10 hb10 HB9 HF9 HT9 HI hx1 Hh9
  go_wp2_with (at_builtin; refine wpList_append_ints _ rfl _ _ rfl w9.heap.size _ half rfl HO10.out _ T rfl HT10.out.sl ?c0 ?c1 ?c2 ?_)
  case c0 => intro e; have := HlT.out; rw [e] at this; simp at this; omega
  case c1 => rw [HlT.out, HlH.out]; omega
  case c2 => omega
  intro g11 c11 n11 w11 hn11 ho11 hg11 hat11
  have hn11' : n11 = n := by have := HlT.out; have := HlH.out; have := HN.out; first | omega | (simp only [List.length_append] at hn11; omega)
  rw [hn11'] at ho11 ⊢
  have HO11 := hid ho11
  have hsz11 := hg11.size
  have HF11 := hid (Ow.keptNe HF10.out hg11 (fun j e => by simp [Value.ownBlock] at e ⊢; omega))
  have HB11 := hid (HB10.out.trans (below_of_grown hg11 HB10.out.size (fun j e => by simp [Value.ownBlock] at e; omega)))
  clear hn11 hn11' ho11 hg11 hat11 HO10 HB10 HF10 HT10
  have hS0 : w11.drew.cell? ⟨L, 0, none⟩ = some (.int .i64 s) := (HB11.out.cell (p := ⟨L, 0, none⟩) hLr).trans t0
  have HR11 := hid (HR0.out.later HB11.out)
  have HL11 := hid (HL0.out.later HB11.out)
  have hRl := HR0.out.lt
  have hLR : L ≠ w.heap.size := by omega
  have hw11 := HB11.out.size
  have HFD11 : Hid (Sl .i64 w11.drew (.slice (some ⟨bf, of + m, none⟩) m (c3 - m)) FD) := sl_cells Hld.out (Nat.lt_of_lt_of_le (Nat.lt_of_lt_of_le hbf HB0.out.size) hw11) (fun i hi => by
    rw [show w11.drew.cell? ⟨bf, of + m + i, none⟩ = w11.cell? ⟨bf, of + m + i, none⟩ from rfl, HB11.out.cell (p := ⟨bf, of + m + i, none⟩) (Nat.lt_of_lt_of_le hbf HB0.out.size), HB0.out.cell (p := ⟨bf, of + m + i, none⟩) hbf, Nat.add_assoc, HC.out (m + i) (by omega), HdG.out i])
  have HB12 := hid (bthen HB0.out HB11.out)
  clear t0 t1 HL0 HR0 HB0 HC HtG HdG Hlt
  have hd11 : Below w11.heap.size w11 w11.drew := (Below.refl _ w11).drew
  go_wp2_with fail
  refine wp_region_noPanic ?_
  refine wp_region_held_drew (S := fun W => W.cell? ⟨L, 0, none⟩ = some (.int .i64 s)) (by kernel_rfl) (by first | exact hS14 | exact hS13 | exact hS12 | exact hS0) (fun hHeld => ?_)
  (refine wpAnyH_take (i := 0) (v := ?_) rfl (by kernel_rfl) (by kernel_rfl) (by kernel_rfl) (fun _ _ _ h => h) (Or.inl ⟨by rfl, ?_⟩) hHeld ?_; rotate_left; (intro w hSw; (have s0 := hSw); (go_simp <;> with_reducible rfl)); simp only [List.getElem_toArray, List.getElem_cons_zero, Act.put, List.setIfInBounds_toArray, List.set_cons_zero, List.set_cons_succ])
  (refine wpAnyH_take (i := 1) (v := ?_) rfl (by kernel_rfl) (by kernel_rfl) (by kernel_rfl) (fun _ _ _ h => h) (Or.inl ⟨by rfl, ?_⟩) hHeld ?_; rotate_left; (intro w hSw; (have s0 := hSw); (go_simp <;> with_reducible rfl)); simp only [List.getElem_toArray, List.getElem_cons_zero, List.getElem_cons_succ, Act.put, List.setIfInBounds_toArray, List.set_cons_zero, List.set_cons_succ])
  (refine wpAnyH_take (i := 2) (v := ?_) rfl (by kernel_rfl) (by kernel_rfl) (by kernel_rfl) (fun _ _ _ h => h) (Or.inl ⟨by rfl, ?_⟩) hHeld ?_; rotate_left; (intro w hSw; (have s0 := hSw); (go_simp <;> with_reducible rfl)); simp only [List.getElem_toArray, List.getElem_cons_zero, List.getElem_cons_succ, Act.put, List.setIfInBounds_toArray, List.set_cons_zero, List.set_cons_succ])
  (refine wpAnyH_take (i := 3) (v := ?_) rfl (by kernel_rfl) (by kernel_rfl) (by kernel_rfl) (fun _ _ _ h => h) (Or.inl ⟨by rfl, ?_⟩) hHeld ?_; rotate_left; (intro w hSw; (have s0 := hSw); (go_simp <;> with_reducible rfl)); simp only [List.getElem_toArray, List.getElem_cons_zero, List.getElem_cons_succ, Act.put, List.setIfInBounds_toArray, List.set_cons_zero, List.set_cons_succ])
  (refine wpAnyH_take (i := 4) (v := ?_) rfl (by kernel_rfl) (by kernel_rfl) (by kernel_rfl) (fun _ _ _ h => h) (Or.inl ⟨by rfl, ?_⟩) hHeld ?_; rotate_left; (intro w hSw; (have s0 := hSw); (go_simp <;> with_reducible rfl)); simp only [List.getElem_toArray, List.getElem_cons_zero, List.getElem_cons_succ, Act.put, List.setIfInBounds_toArray, List.set_cons_zero, List.set_cons_succ])
  (refine wpAnyH_take (i := 5) (v := ?_) rfl (by kernel_rfl) (by kernel_rfl) (by kernel_rfl) (fun _ _ _ h => h) (Or.inl ⟨by rfl, ?_⟩) hHeld ?_; rotate_left; (intro w hSw; (have s0 := hSw); (go_simp <;> with_reducible rfl)); simp only [List.getElem_toArray, List.getElem_cons_zero, List.getElem_cons_succ, Act.put, List.setIfInBounds_toArray, List.set_cons_zero, List.set_cons_succ])
  (refine wpAnyH_take (i := 6) (v := ?_) rfl (by kernel_rfl) (by kernel_rfl) (by kernel_rfl) (fun _ _ _ h => h) (Or.inl ⟨by rfl, ?_⟩) hHeld ?_; rotate_left; (intro w hSw; (have s0 := hSw); (go_simp <;> with_reducible rfl)); simp only [List.getElem_toArray, List.getElem_cons_zero, List.getElem_cons_succ, Act.put, List.setIfInBounds_toArray, List.set_cons_zero, List.set_cons_succ])
  (refine wpAnyH_take (i := 7) (v := ?_) rfl (by kernel_rfl) (by kernel_rfl) (by kernel_rfl) (fun _ _ _ h => h) (Or.inl ⟨by rfl, ?_⟩) hHeld ?_; rotate_left; (intro w hSw; (have s0 := hSw); (go_simp <;> with_reducible rfl)); simp only [List.getElem_toArray, List.getElem_cons_zero, List.getElem_cons_succ, Act.put, List.setIfInBounds_toArray, List.set_cons_zero, List.set_cons_succ])
  (refine wpAnyH_take (i := 10) (v := ?_) rfl (by kernel_rfl) (by kernel_rfl) (by kernel_rfl) (fun _ _ _ h => h) (Or.inl ⟨by rfl, ?_⟩) hHeld ?_; rotate_left; (intro w hSw; (have s0 := hSw); (go_simp <;> with_reducible rfl)); simp only [List.getElem_toArray, List.getElem_cons_zero, List.getElem_cons_succ, Act.put, List.setIfInBounds_toArray, List.set_cons_zero, List.set_cons_succ])
  refine wpAnyH_ready (rs := [8]) (by kernel_rfl) (by simp) ?_
  refine (AllReadyH.cons rfl (fun K hK => ?_) AllReadyH.nil)
  go_simp
  (refine (HJ.out _ _ HFD11.out).mono ?_; rintro e w12 ⟨g12, c12, rfl, ho12, hb12'⟩; have hb12 := bthen hd11 hb12'; have hS12 := (hb12'.cell (p := ⟨L, 0, none⟩) (show L < w11.heap.size by omega)).trans hS0)
  refine hK.out _ _ (by first | exact hS14 | exact hS13 | exact hS12 | exact hS0) (fun hHeld => ?_)
  clear hK K
  try dsimp only
  (refine wpAnyH_take (i := 9) (v := ?_) rfl (by kernel_rfl) (by kernel_rfl) (by kernel_rfl) (fun _ _ _ h => h) (Or.inl ⟨by rfl, ?_⟩) hHeld ?_; rotate_left; (intro w hSw; (have s0 := hSw); (go_simp <;> with_reducible rfl)); simp only [List.getElem_toArray, List.getElem_cons_zero, List.getElem_cons_succ, Act.put, List.setIfInBounds_toArray, List.set_cons_zero, List.set_cons_succ])
  refine wpAnyH_ready (rs := [11]) (by kernel_rfl) (by simp) ?_
  refine (AllReadyH.cons rfl (fun K hK => ?_) AllReadyH.nil)
  go_simp
  (refine (HSp.out _ _ (HO11.out.sl.later hb12)).mono ?_; rintro e w13 ⟨g13, c13, rfl, ho13, hb13⟩; have hS13 := (hb13.cell (p := ⟨L, 0, none⟩) (show L < w12.heap.size by have := hb12.size; omega)).trans hS12; have hR13 := (HR11.out.later hb12).later hb13; obtain ⟨r0, r1, r2, q0, q1, q2⟩ := hR13.three; have hL13 := (HL11.out.later hb12).later hb13)
  refine hK.out _ _ (by first | exact hS14 | exact hS13 | exact hS12 | exact hS0) (fun hHeld => ?_)
  clear hK K
  try dsimp only
  refine wpAnyH_ready (rs := [12]) (by kernel_rfl) (by simp) ?_
  refine (AllReadyH.cons rfl (fun K hK => ?_) AllReadyH.nil)
  go_simp
  (have hS14 := ((((hL13.other (b' := w.heap.size) (Ne.symm hLR) 0 (.int .i64 s)).other (b' := w.heap.size) (Ne.symm hLR) 1 (.slice (some ⟨gb, 0, none⟩) m m)).other (b' := w.heap.size) (Ne.symm hLR) 2 (.slice (some ⟨g12, 0, none⟩) m c12)).three).1)
  refine hK.out _ _ (by first | exact hS14 | exact hS13 | exact hS12 | exact hS0) (fun hHeld => ?_)
  clear hK K
  try simp only [List.getElem_toArray, List.getElem_cons_zero, List.getElem_cons_succ, Act.put, List.setIfInBounds_toArray, List.set_cons_zero, List.set_cons_succ]
  (refine wpAnyH_take (i := 13) (v := ?_) rfl (by kernel_rfl) (by kernel_rfl) (by kernel_rfl) (fun _ _ _ h => h) (Or.inl ⟨by rfl, ?_⟩) hHeld ?_; rotate_left; (intro w hSw; (have s0 := hSw); (go_simp <;> with_reducible rfl)); simp only [List.getElem_toArray, List.getElem_cons_zero, List.getElem_cons_succ, Act.put, List.setIfInBounds_toArray, List.set_cons_zero, List.set_cons_succ])
  refine wpAnyH_done (by kernel_rfl) ?_ _
  refine NoPanic.normal ?_
  have hgg : gb ≠ g12 := by (have h9 := (ho12.block g12 rfl).1; have h8 : w11.drew.heap.size = w11.heap.size := rfl; omega)
  have hF14 := (((HF11.out.later hb12).later hb13).over hwl (grown_set3 w13 w.heap.size (.int .i64 s) (.slice (some ⟨gb, 0, none⟩) m m) (.slice (some ⟨g12, 0, none⟩) m c12))).mono (Nat.le_of_lt hwl)
  have hD14 := ((ho12.later hb13).over (show w.heap.size < w11.heap.size by omega) (grown_set3 w13 w.heap.size (.int .i64 s) (.slice (some ⟨gb, 0, none⟩) m m) (.slice (some ⟨g12, 0, none⟩) m c12))).mono (show w.heap.size ≤ w11.heap.size by omega)
  have hK14 := (ho13.over (show w.heap.size < w12.heap.size by (have := hb12.size; omega)) (grown_set3 w13 w.heap.size (.int .i64 s) (.slice (some ⟨gb, 0, none⟩) m m) (.slice (some ⟨g12, 0, none⟩) m c12))).mono (show w.heap.size ≤ w12.heap.size by (have := hb12.size; omega))
  have hB14 := below_cell (below_cell (below_cell (bthen (bthen HB12.out hb12) hb13) (Nat.le_refl _) 0 (.int .i64 s)) (Nat.le_refl _) 1 (.slice (some ⟨gb, 0, none⟩) m m)) (Nat.le_refl _) 2 (.slice (some ⟨g12, 0, none⟩) m c12)
  go_wp2
  exact bodyPost_ret (v := .tuple #[.agg #[.int .i64 s, .slice (some ⟨gb, 0, none⟩) m m, .slice (some ⟨g12, 0, none⟩) m c12], .slice (some ⟨g13, 0, none⟩) n c13]) (by simp [results, Tryd.results66, go_sem, r0, r1, r2]) rfl ⟨_, _, _, rfl, ⟨hF14, hD14, fun g x1 x2 => by simp [Value.ownBlock] at x1 x2; omega⟩, hK14, hB14⟩
end Go.Proofs.YtgnbailcibhenaaDoor.LapU

namespace Go.Proofs.YtgnbailcibhenaaDoor.LapV
open Go.ChangeShapes Go.WideShapes Go.ChangeAt Go.RowKit Go.Proofs.YtgnbailcibhenaaDoor.Num Go.Proofs.YtgnbailcibhenaaDoor.Sli Go.Proofs.YtgnbailcibhenaaDoor.App Go.Proofs.YtgnbailcibhenaaDoor.Div Go.Proofs.YtgnbailcibhenaaDoor.Samp Go.Proofs.YtgnbailcibhenaaDoor.SampF Go.Proofs.YtgnbailcibhenaaDoor.Blk Go.Proofs.YtgnbailcibhenaaDoor.TurM Go.Proofs.YtgnbailcibhenaaDoor.HalM Go.Proofs.YtgnbailcibhenaaDoor.LapM Go.Proofs.YtgnbailcibhenaaDoor.LapN Go.Proofs.YtgnbailcibhenaaDoor.IntL Go.Proofs.YtgnbailcibhenaaDoor.IntA Go.Proofs.YtgnbailcibhenaaDoor.HalS Go.Proofs.YtgnbailcibhenaaDoor.SprS Go.Proofs.YtgnbailcibhenaaDoor.GatS Go.Proofs.YtgnbailcibhenaaDoor.LapS Go.Proofs.YtgnbailcibhenaaDoor.LapT Go.Proofs.YtgnbailcibhenaaDoor.LapU

/-- A list of numbers is appended. -/
theorem app_list {base : Nat} {W : World} {u : Value} {xs ys : List Int} {b o c m : Nat} (ty : TypeId) (h : OwI base W u xs) (hbase : base ≤ W.heap.size) (hlen : xs.length ≤ 100000) (hy : ys.length = m) (hm : 1 ≤ m ∧ m ≤ 1000)
    (hc : ∀ i, i < m → W.cell? ⟨b, o + i, none⟩ = some (.int .i64 (ys.getD i 0))) :
    ∃ gc cc w1, (Builtin.append_ #[27, 27] ty #[u, .slice (some ⟨b, o, none⟩) m c]).run Tryd.prog W = .ok (.slice (some ⟨gc, 0, none⟩) (xs.length + m) cc) w1 ∧
      OwI base w1 (.slice (some ⟨gc, 0, none⟩) (xs.length + m) cc) (xs ++ ys) ∧ W.grownBy w1 u.ownBlock := by
  obtain ⟨i0, hi, hz0, hz1, hz2⟩ := info_parts infoI
  have h' : W.ownsRow base 2 1 u xs.length (xs.map (Value.int .i64)) := h
  obtain ⟨v', w', hrun, hown, hg, _, hbl⟩ := run_append_own_at W base 27 ty 2 i0 (.int .i64 0) 1 8 Tryd.underlying27 hi hz0 hz1 hz2 rfl (by decide) u xs.length (xs.map (Value.int .i64)) h' ⟨b, o, none⟩ m c (ys.map (Value.int .i64)) (by simp [hy])
    (by
      intro j z hj
      rw [List.getElem?_map] at hj
      rcases hx : ys[j]? with _ | y
      · rw [hx] at hj; cases hj
      · rw [hx] at hj; simp at hj; subst hj
        have hjl : j < ys.length := by rcases Nat.lt_or_ge j ys.length with h1 | h1; exact h1; rw [List.getElem?_eq_none h1] at hx; cases hx
        have hc1 := hc j (by omega)
        rw [show ys.getD j 0 = y by rw [List.getD_eq_getElem?_getD, hx, Option.getD_some]] at hc1
        have e2 : (⟨b, o, none⟩ : Addr).add j = ⟨b, o + j, none⟩ := by
          by_cases hj0 : j = 0
          · subst hj0; simp [Addr.add]
          · simp [Addr.add, hj0]
        rw [e2]; exact hc1) (by intro z hz; simp at hz; obtain ⟨y, _, rfl⟩ := hz; rfl) (by rw [show maxLen = 9223372036854775807 by decide]; omega) (by omega) hbase
  obtain ⟨q, rfl⟩ : ∃ q, m = q + 1 := ⟨m - 1, by omega⟩
  obtain ⟨gc, cc, rfl⟩ := own_succ (n := xs.length + q) hown
  refine ⟨gc, cc, w', hrun, ?_, hg⟩
  show w'.ownsRow base 2 1 _ (xs ++ ys).length ((xs ++ ys).map (Value.int .i64))
  rw [List.length_append, List.map_append, hy]
  exact hown
attribute [-go_sem] Builtin.append_
set_option maxRecDepth 100000 in
set_option maxHeartbeats 4000000 in
theorem l7Play_calls (L : Nat) (s : Int) (vh vt vc : Value) (head tail co : List Int) (w : World) (hL : Blk w L #[.int .i64 s, vh, vt] 34) (h1 : Sl .i64 w vh head) (h2 : Sl .i64 w vt tail) (h3 : Sl .i64 w vc co) (hc : plC s head tail co = 0) :
    Calls Tryd.prog 69 #[.pointer (some ⟨L, 0, none⟩), vc] w fun e w' => ∃ u t k, e = .returned (.tuple #[.agg #[.int .i64 s, u, t], k]) ∧ TW w.heap.size u t (plH s tail co) ((plB s co).drop (hN s)) w' ∧ OwI w.heap.size w' k (head ++ plT s tail co) ∧ Below w.heap.size w w' := by
  obtain ⟨hc1, hcl, hcg⟩ := pl_ok hc
  obtain ⟨hz, l1, l2, b1, b2⟩ := sy_ok hc1
  obtain ⟨-, e1, e2, e3, e4, e5⟩ := sz_nat hz
  obtain ⟨g1, g2, g3⟩ := gath_ok hz hcl hcg
  obtain ⟨d1, d2⟩ := dep_of hz
  have hm0 : s.tdiv 2 = (hN s : Int) := by rw [Int.tdiv_eq_ediv_of_nonneg (by omega)]; exact e5
  have hbd : 4 ≤ s ∧ s ≤ 16 := by omega
  have hm8 : hN s ≤ 8 ∧ 2 ≤ hN s := by omega
  have lt : ((plB s co).take (hN s)).length = hN s := by rw [List.length_take, g2]; omega
  have ld : ((plB s co).drop (hN s)).length = hN s := by rw [List.length_drop, g2]; omega
  have HGa := hid (fun W v (q : Sl .i64 W v co) => l6Gather_calls (dep s.toNat) v co 16777216 W d2 q g1 (gb_ok hcg).2 (by rcases is3_sz (sz_nat hz).1 with e | e | e | e <;> rw [e] <;> decide))
  have HSe := hid (fun W v1 v2 (q1 : Sl .i64 W v1 tail) (q2 : Sl .i64 W v2 ((plB s co).take (hN s))) => seamBack_calls s v1 v2 tail ((plB s co).take (hN s)) W hz q1 q2 l2 lt (b2.mono (by omega)) ((lim_take g3 _).mono (by omega)))
  have HI := hid (fun W v (q : Sl .i64 W v head) => ints_calls v head W q (by omega))
  have HJ := hid (fun W v (q : Sl .i64 W v ((plB s co).drop (hN s))) => ints_calls v ((plB s co).drop (hN s)) W q (by omega))
  have HlT : Hid ((plT s tail co).length = hN s) := smA_len _ _ _ _
  have HlH := hid l1
  have HtG := hid (take_get (plB s co) (hN s))
  have HdG := hid (drop_get (plB s co) (hN s))
  have Hlt := hid lt
  have Hld := hid ld
  have HlB := hid g2
  have HeT : Hid (smA (bkF s.toNat) (hN s) tail ((plB s co).take (hN s)) = plT s tail co) := rfl
  have HeH : Hid (smB (bkF s.toNat) (hN s) tail ((plB s co).take (hN s)) = plH s tail co) := rfl
  have HeB : Hid (ga (dep s.toNat) co = plB s co) := rfl
  rw [HeT.out, HeH.out] at HSe
  rw [HeB.out, ← d1, e2] at HGa
  rw [e2] at HlB
  rw [ld] at HJ
  rw [l1] at HI
  obtain ⟨a1, c1, rfl, -⟩ := id h1
  obtain ⟨a2, c2, rfl, -⟩ := id h2
  obtain ⟨a3, c3, rfl, -⟩ := id h3
  rw [l1] at h1 hL
  rw [l2] at h2 hL
  have H1 := hid h1
  have H2 := hid h2
  have hb0 := bmore (Below.refl _ w) (.cells #[.int .i64 0, .slice none 0 0, .slice none 0 0] 34)
  have H3 := hid (h3.later hb0)
  have HR0 := hid (Blk.new w #[.int .i64 0, .slice none 0 0, .slice none 0 0] 34)
  have HL0 := hid (hL.later hb0)
  have HB0 := hid hb0
  have hLl := hL.lt
  clear hc hc1 hcl hcg hz l1 l2 b1 b2 g1 g2 g3 d1 d2 e1 e2 e3 e4 e5 lt ld h1 h2 h3 hL HeT HeH HeB hb0
  generalize hN s = m at *
  generalize plT s tail co = T at *
  generalize plH s tail co = F at *
  generalize plB s co = K at *
  generalize K.take m = FT at *
  generalize K.drop m = FD at *
  obtain ⟨n, hn⟩ : ∃ n : Nat, 2 * m = n := ⟨_, rfl⟩
  have HN := hid hn
  have hnm : n - m = m := by omega
  have hmI2 : (m : Int) ≤ (n : Int) := by omega
  have hn16 : n ≤ 16 := by omega
  rw [hn] at HGa HlB
  clear hn
  have hwl : w.heap.size < (w.alloc (.cells #[.int .i64 0, .slice none 0 0, .slice none 0 0] 34)).heap.size := by simp
  obtain ⟨t0, t1, t2, _⟩ := HL0.out.three
  go_enter Tryd.func69, Tryd.ntmps69
  go_wp2_with fail
  refine (HGa.out _ _ H3.out).mono ?_
  rintro e w4 ⟨gk, ck, rfl, ho4, hb4⟩
  have hck : n ≤ ck := ho4.fits
  have hmI : (m : Int) ≤ (ck : Int) := by omega
  have hnc : (n : Int) ≤ (ck : Int) := by omega
  have hcm : ¬ ck = m := by omega
  have HK4 := hid ho4
  have HL4 := hid (HL0.out.later hb4)
  have HR4 := hid (HR0.out.later hb4)
  have HB4 := hid (bthen HB0.out hb4)
  have H14 := hid ((H1.out.later HB0.out).later hb4)
  have H24 := hid ((H2.out.later HB0.out).later hb4)
  have hw4 := hb4.size
  have hgk := ho4.block gk rfl
  have HKc : Hid (∀ i, i < n → w4.cell? ⟨gk, i, none⟩ = some (.int .i64 (K.getD i 0))) := fun i hi => (ho4.cellAt HlB.out.symm i (by rw [HlB.out]; exact hi)).1
  obtain ⟨t0, t1, t2, _⟩ := HL4.out.three
  have hLr := HL4.out.lt
  clear ho4 hb4 HGa H1 H2 H3 HL0 HR0 HB0
  go_wp2_with fail
  have hL1 : Below w4.heap.size w4 w4.drew := (Below.refl _ w4).drew
  refine wp_region_noPanic ?_
  refine wp_region_held_drew (S := fun W => Below w4.heap.size w4 W) (by kernel_rfl) ?_ (fun hHeld => ?_)
  · first | exact hL9 | exact hL1
  (refine wpAnyH_take (i := 0) (v := ?_) rfl (by kernel_rfl) (by kernel_rfl) (by kernel_rfl) (fun _ _ _ h => h) (Or.inl ⟨by rfl, ?_⟩) hHeld ?_; rotate_left; (intro w hSw; (have s0 := (hSw.cell (p := ⟨L, 0, none⟩) hLr).trans t0; have s2 := (hSw.cell (p := ⟨L, 2, none⟩) hLr).trans t2; clear hSw); (go_simp <;> with_reducible rfl)); simp only [List.getElem_toArray, List.getElem_cons_zero, Act.put, List.setIfInBounds_toArray, List.set_cons_zero, List.set_cons_succ])
  (refine wpAnyH_take (i := 1) (v := ?_) rfl (by kernel_rfl) (by kernel_rfl) (by kernel_rfl) (fun _ _ _ h => h) (Or.inl ⟨by rfl, ?_⟩) hHeld ?_; rotate_left; (intro w hSw; (have s0 := (hSw.cell (p := ⟨L, 0, none⟩) hLr).trans t0; have s2 := (hSw.cell (p := ⟨L, 2, none⟩) hLr).trans t2; clear hSw); (go_simp <;> with_reducible rfl)); simp only [List.getElem_toArray, List.getElem_cons_zero, List.getElem_cons_succ, Act.put, List.setIfInBounds_toArray, List.set_cons_zero, List.set_cons_succ])
  (refine wpAnyH_take (i := 2) (v := ?_) rfl (by kernel_rfl) (by kernel_rfl) (by kernel_rfl) (fun _ _ _ h => h) (Or.inl ⟨by rfl, ?_⟩) hHeld ?_; rotate_left; (intro w hSw; (have s0 := (hSw.cell (p := ⟨L, 0, none⟩) hLr).trans t0; have s2 := (hSw.cell (p := ⟨L, 2, none⟩) hLr).trans t2; clear hSw); (go_simp <;> with_reducible rfl)); simp only [List.getElem_toArray, List.getElem_cons_zero, List.getElem_cons_succ, Act.put, List.setIfInBounds_toArray, List.set_cons_zero, List.set_cons_succ])
  (refine wpAnyH_take (i := 3) (v := ?_) rfl (by kernel_rfl) (by kernel_rfl) (by kernel_rfl) (fun _ _ _ h => h) (Or.inl ⟨by rfl, ?_⟩) hHeld ?_; rotate_left; (intro w hSw; (have s0 := (hSw.cell (p := ⟨L, 0, none⟩) hLr).trans t0; have s2 := (hSw.cell (p := ⟨L, 2, none⟩) hLr).trans t2; clear hSw); (go_simp <;> with_reducible rfl)); simp only [List.getElem_toArray, List.getElem_cons_zero, List.getElem_cons_succ, Act.put, List.setIfInBounds_toArray, List.set_cons_zero, List.set_cons_succ])
  (refine wpAnyH_take (i := 4) (v := ?_) rfl (by kernel_rfl) (by kernel_rfl) (by kernel_rfl) (fun _ _ _ h => h) (Or.inl ⟨by rfl, ?_⟩) hHeld ?_; rotate_left; (intro w hSw; (have s0 := (hSw.cell (p := ⟨L, 0, none⟩) hLr).trans t0; have s2 := (hSw.cell (p := ⟨L, 2, none⟩) hLr).trans t2; clear hSw); (go_simp <;> with_reducible rfl)); simp only [List.getElem_toArray, List.getElem_cons_zero, List.getElem_cons_succ, Act.put, List.setIfInBounds_toArray, List.set_cons_zero, List.set_cons_succ])
  (refine wpAnyH_take (i := 5) (v := ?_) rfl (by kernel_rfl) (by kernel_rfl) (by kernel_rfl) (fun _ _ _ h => h) (Or.inl ⟨by rfl, ?_⟩) hHeld ?_; rotate_left; (intro w hSw; (have s0 := (hSw.cell (p := ⟨L, 0, none⟩) hLr).trans t0; have s2 := (hSw.cell (p := ⟨L, 2, none⟩) hLr).trans t2; clear hSw); (go_simp <;> with_reducible rfl)); simp only [List.getElem_toArray, List.getElem_cons_zero, List.getElem_cons_succ, Act.put, List.setIfInBounds_toArray, List.set_cons_zero, List.set_cons_succ])
  (refine wpAnyH_take (i := 6) (v := ?_) rfl (by kernel_rfl) (by kernel_rfl) (by kernel_rfl) (fun _ _ _ h => h) (Or.inl ⟨by rfl, ?_⟩) hHeld ?_; rotate_left; (intro w hSw; (have s0 := (hSw.cell (p := ⟨L, 0, none⟩) hLr).trans t0; have s2 := (hSw.cell (p := ⟨L, 2, none⟩) hLr).trans t2; clear hSw); (go_simp <;> with_reducible rfl)); simp only [List.getElem_toArray, List.getElem_cons_zero, List.getElem_cons_succ, Act.put, List.setIfInBounds_toArray, List.set_cons_zero, List.set_cons_succ])
  (refine wpAnyH_take (i := 7) (v := ?_) rfl (by kernel_rfl) (by kernel_rfl) (by kernel_rfl) (fun _ _ _ h => h) (Or.inl ⟨by rfl, ?_⟩) hHeld ?_; rotate_left; (intro w hSw; (have s0 := (hSw.cell (p := ⟨L, 0, none⟩) hLr).trans t0; have s2 := (hSw.cell (p := ⟨L, 2, none⟩) hLr).trans t2; clear hSw); (go_simp <;> with_reducible rfl)); simp only [List.getElem_toArray, List.getElem_cons_zero, List.getElem_cons_succ, Act.put, List.setIfInBounds_toArray, List.set_cons_zero, List.set_cons_succ])
  (refine wpAnyH_take (i := 8) (v := ?_) rfl (by kernel_rfl) (by kernel_rfl) (by kernel_rfl) (fun _ _ _ h => h) (Or.inl ⟨by rfl, ?_⟩) hHeld ?_; rotate_left; (intro w hSw; (have s0 := (hSw.cell (p := ⟨L, 0, none⟩) hLr).trans t0; have s2 := (hSw.cell (p := ⟨L, 2, none⟩) hLr).trans t2; clear hSw); (go_simp <;> with_reducible rfl)); simp only [List.getElem_toArray, List.getElem_cons_zero, List.getElem_cons_succ, Act.put, List.setIfInBounds_toArray, List.set_cons_zero, List.set_cons_succ])
  (refine wpAnyH_take (i := 9) (v := ?_) rfl (by kernel_rfl) (by kernel_rfl) (by kernel_rfl) (fun _ _ _ h => h) (Or.inl ⟨by rfl, ?_⟩) hHeld ?_; rotate_left; (intro w hSw; (have s0 := (hSw.cell (p := ⟨L, 0, none⟩) hLr).trans t0; have s2 := (hSw.cell (p := ⟨L, 2, none⟩) hLr).trans t2; clear hSw); (go_simp <;> with_reducible rfl)); simp only [List.getElem_toArray, List.getElem_cons_zero, List.getElem_cons_succ, Act.put, List.setIfInBounds_toArray, List.set_cons_zero, List.set_cons_succ])
  (refine wpAnyH_take (i := 10) (v := ?_) rfl (by kernel_rfl) (by kernel_rfl) (by kernel_rfl) (fun _ _ _ h => h) (Or.inl ⟨by rfl, ?_⟩) hHeld ?_; rotate_left; (intro w hSw; (have s0 := (hSw.cell (p := ⟨L, 0, none⟩) hLr).trans t0; have s2 := (hSw.cell (p := ⟨L, 2, none⟩) hLr).trans t2; clear hSw); (go_simp <;> with_reducible rfl)); simp only [List.getElem_toArray, List.getElem_cons_zero, List.getElem_cons_succ, Act.put, List.setIfInBounds_toArray, List.set_cons_zero, List.set_cons_succ])
  (refine wpAnyH_ready (rs := [11]) (by kernel_rfl) (by simp) ?_; refine AllReadyH.cons rfl (fun K hK => ?_) AllReadyH.nil; go_simp; (refine (HSe.out _ _ _ (H24.out.later hHeld) (sl_cells Hlt.out (Nat.lt_of_lt_of_le hgk.2 hHeld.size) (fun i hi => by rw [Nat.zero_add, hHeld.cell (p := ⟨gk, i, none⟩) hgk.2, HKc.out i (by omega), HtG.out i, if_pos hi]))).mono ?_; rintro e w9 ⟨ga, gb, rfl, hk9⟩; have hL9 := bthen hHeld hk9.b); refine hK.out _ _ ?_ (fun hHeld => ?_); (first | exact hL9 | exact hL1); clear hK K; try dsimp only)
  (refine wpAnyH_take (i := 12) (v := ?_) rfl (by kernel_rfl) (by kernel_rfl) (by kernel_rfl) (fun _ _ _ h => h) (Or.inl ⟨by rfl, ?_⟩) hHeld ?_; rotate_left; (intro w hSw; (have s0 := (hSw.cell (p := ⟨L, 0, none⟩) hLr).trans t0; have s2 := (hSw.cell (p := ⟨L, 2, none⟩) hLr).trans t2; clear hSw); (go_simp <;> with_reducible rfl)); simp only [List.getElem_toArray, List.getElem_cons_zero, List.getElem_cons_succ, Act.put, List.setIfInBounds_toArray, List.set_cons_zero, List.set_cons_succ])
  (refine wpAnyH_take (i := 13) (v := ?_) rfl (by kernel_rfl) (by kernel_rfl) (by kernel_rfl) (fun _ _ _ h => h) (Or.inl ⟨by rfl, ?_⟩) hHeld ?_; rotate_left; (intro w hSw; (have s0 := (hSw.cell (p := ⟨L, 0, none⟩) hLr).trans t0; have s2 := (hSw.cell (p := ⟨L, 2, none⟩) hLr).trans t2; clear hSw); (go_simp <;> with_reducible rfl)); simp only [List.getElem_toArray, List.getElem_cons_zero, List.getElem_cons_succ, Act.put, List.setIfInBounds_toArray, List.set_cons_zero, List.set_cons_succ])
  (refine wpAnyH_take (i := 14) (v := ?_) rfl (by kernel_rfl) (by kernel_rfl) (by kernel_rfl) (fun _ _ _ h => h) (Or.inl ⟨by rfl, ?_⟩) hHeld ?_; rotate_left; (intro w hSw; (have s0 := (hSw.cell (p := ⟨L, 0, none⟩) hLr).trans t0; have s2 := (hSw.cell (p := ⟨L, 2, none⟩) hLr).trans t2; clear hSw); (go_simp <;> with_reducible rfl)); simp only [List.getElem_toArray, List.getElem_cons_zero, List.getElem_cons_succ, Act.put, List.setIfInBounds_toArray, List.set_cons_zero, List.set_cons_succ])
  (refine wpAnyH_take (i := 15) (v := ?_) rfl (by kernel_rfl) (by kernel_rfl) (by kernel_rfl) (fun _ _ _ h => h) (Or.inl ⟨by rfl, ?_⟩) hHeld ?_; rotate_left; (intro w hSw; (have s0 := (hSw.cell (p := ⟨L, 0, none⟩) hLr).trans t0; have s2 := (hSw.cell (p := ⟨L, 2, none⟩) hLr).trans t2; clear hSw); (go_simp <;> with_reducible rfl)); simp only [List.getElem_toArray, List.getElem_cons_zero, List.getElem_cons_succ, Act.put, List.setIfInBounds_toArray, List.set_cons_zero, List.set_cons_succ])
  (refine wpAnyH_take (i := 16) (v := ?_) rfl (by kernel_rfl) (by kernel_rfl) (by kernel_rfl) (fun _ _ _ h => h) (Or.inl ⟨by rfl, ?_⟩) hHeld ?_; rotate_left; (intro w hSw; (have s0 := (hSw.cell (p := ⟨L, 0, none⟩) hLr).trans t0; have s2 := (hSw.cell (p := ⟨L, 2, none⟩) hLr).trans t2; clear hSw); (go_simp <;> with_reducible rfl)); simp only [List.getElem_toArray, List.getElem_cons_zero, List.getElem_cons_succ, Act.put, List.setIfInBounds_toArray, List.set_cons_zero, List.set_cons_succ])
  refine wpAnyH_done (by kernel_rfl) ?_ _
  refine NoPanic.normal ?_
  have HB9 := hid hL9
  have HF9 := hid hk9.d
  have HT9 := hid hk9.s
  have hgb := (hk9.d.block gb rfl).2
  have hga := (hk9.s.block ga rfl).2
  have hsz9 := hL9.size
  have Hh9 := hid (H14.out.later hL9)
  have HL9 := hid (HL4.out.later hL9)
  have HR9 := hid (HR4.out.later hL9)
  have HBw := hid (bthen HB4.out hL9)
  have hS0 : w9.drew.cell? ⟨L, 0, none⟩ = some (.int .i64 s) ∧ w9.drew.cell? ⟨L, 1, none⟩ = some (.slice a1 m c1) := ⟨(hL9.cell (p := ⟨L, 0, none⟩) hLr).trans t0, (hL9.cell (p := ⟨L, 1, none⟩) hLr).trans t1⟩
  have HFD9 : Hid (Sl .i64 w9.drew (.slice (some ⟨gk, m, none⟩) m (ck - m)) FD) := sl_cells Hld.out (Nat.lt_of_lt_of_le hgk.2 hsz9) (fun i hi => by
    rw [show w9.drew.cell? ⟨gk, m + i, none⟩ = w9.cell? ⟨gk, m + i, none⟩ from rfl, hL9.cell (p := ⟨gk, m + i, none⟩) hgk.2, HKc.out (m + i) (by omega), HdG.out i])
  have HTc : Hid (∀ i, i < m → w9.cell? ⟨ga, i, none⟩ = some (.int .i64 (T.getD i 0))) := fun i hi => (hk9.s.cellAt HlT.out.symm i (by rw [HlT.out]; exact hi)).1
  have hLR : L ≠ w.heap.size := by omega
  have hd9 : Below w9.heap.size w9 w9.drew := (Below.refl _ w9).drew
  clear hHeld hL1 hL9 hk9 t0 t1 t2 HSe H14 H24 HL4 HR4 HB4 HKc HtG HdG Hlt HT9 HB9
  go_wp2_with fail
  refine wp_region_noPanic ?_
  refine wp_region_held_drew (S := fun W => W.cell? ⟨L, 0, none⟩ = some (.int .i64 s) ∧ W.cell? ⟨L, 1, none⟩ = some (.slice a1 m c1)) (by kernel_rfl) (by first | exact hS17 | exact hS16 | exact hS15 | exact hS14 | exact hS0) (fun hHeld => ?_)
  (refine wpAnyH_take (i := 0) (v := ?_) rfl (by kernel_rfl) (by kernel_rfl) (by kernel_rfl) (fun _ _ _ h => h) (Or.inl ⟨by rfl, ?_⟩) hHeld ?_; rotate_left; (intro w hSw; (obtain ⟨s0, s1⟩ := hSw); (go_simp <;> with_reducible rfl)); simp only [List.getElem_toArray, List.getElem_cons_zero, Act.put, List.setIfInBounds_toArray, List.set_cons_zero, List.set_cons_succ])
  (refine wpAnyH_take (i := 1) (v := ?_) rfl (by kernel_rfl) (by kernel_rfl) (by kernel_rfl) (fun _ _ _ h => h) (Or.inl ⟨by rfl, ?_⟩) hHeld ?_; rotate_left; (intro w hSw; (obtain ⟨s0, s1⟩ := hSw); (go_simp <;> with_reducible rfl)); simp only [List.getElem_toArray, List.getElem_cons_zero, List.getElem_cons_succ, Act.put, List.setIfInBounds_toArray, List.set_cons_zero, List.set_cons_succ])
  (refine wpAnyH_take (i := 2) (v := ?_) rfl (by kernel_rfl) (by kernel_rfl) (by kernel_rfl) (fun _ _ _ h => h) (Or.inl ⟨by rfl, ?_⟩) hHeld ?_; rotate_left; (intro w hSw; (obtain ⟨s0, s1⟩ := hSw); (go_simp <;> with_reducible rfl)); simp only [List.getElem_toArray, List.getElem_cons_zero, List.getElem_cons_succ, Act.put, List.setIfInBounds_toArray, List.set_cons_zero, List.set_cons_succ])
  (refine wpAnyH_take (i := 3) (v := ?_) rfl (by kernel_rfl) (by kernel_rfl) (by kernel_rfl) (fun _ _ _ h => h) (Or.inl ⟨by rfl, ?_⟩) hHeld ?_; rotate_left; (intro w hSw; (obtain ⟨s0, s1⟩ := hSw); (go_simp <;> with_reducible rfl)); simp only [List.getElem_toArray, List.getElem_cons_zero, List.getElem_cons_succ, Act.put, List.setIfInBounds_toArray, List.set_cons_zero, List.set_cons_succ])
  (refine wpAnyH_take (i := 4) (v := ?_) rfl (by kernel_rfl) (by kernel_rfl) (by kernel_rfl) (fun _ _ _ h => h) (Or.inl ⟨by rfl, ?_⟩) hHeld ?_; rotate_left; (intro w hSw; (obtain ⟨s0, s1⟩ := hSw); (go_simp <;> with_reducible rfl)); simp only [List.getElem_toArray, List.getElem_cons_zero, List.getElem_cons_succ, Act.put, List.setIfInBounds_toArray, List.set_cons_zero, List.set_cons_succ])
  (refine wpAnyH_take (i := 5) (v := ?_) rfl (by kernel_rfl) (by kernel_rfl) (by kernel_rfl) (fun _ _ _ h => h) (Or.inl ⟨by rfl, ?_⟩) hHeld ?_; rotate_left; (intro w hSw; (obtain ⟨s0, s1⟩ := hSw); (go_simp <;> with_reducible rfl)); simp only [List.getElem_toArray, List.getElem_cons_zero, List.getElem_cons_succ, Act.put, List.setIfInBounds_toArray, List.set_cons_zero, List.set_cons_succ])
  (refine wpAnyH_take (i := 6) (v := ?_) rfl (by kernel_rfl) (by kernel_rfl) (by kernel_rfl) (fun _ _ _ h => h) (Or.inl ⟨by rfl, ?_⟩) hHeld ?_; rotate_left; (intro w hSw; (obtain ⟨s0, s1⟩ := hSw); (go_simp <;> with_reducible rfl)); simp only [List.getElem_toArray, List.getElem_cons_zero, List.getElem_cons_succ, Act.put, List.setIfInBounds_toArray, List.set_cons_zero, List.set_cons_succ])
  (refine wpAnyH_take (i := 7) (v := ?_) rfl (by kernel_rfl) (by kernel_rfl) (by kernel_rfl) (fun _ _ _ h => h) (Or.inl ⟨by rfl, ?_⟩) hHeld ?_; rotate_left; (intro w hSw; (obtain ⟨s0, s1⟩ := hSw); (go_simp <;> with_reducible rfl)); simp only [List.getElem_toArray, List.getElem_cons_zero, List.getElem_cons_succ, Act.put, List.setIfInBounds_toArray, List.set_cons_zero, List.set_cons_succ])
  (refine wpAnyH_take (i := 10) (v := ?_) rfl (by kernel_rfl) (by kernel_rfl) (by kernel_rfl) (fun _ _ _ h => h) (Or.inl ⟨by rfl, ?_⟩) hHeld ?_; rotate_left; (intro w hSw; (obtain ⟨s0, s1⟩ := hSw); (go_simp <;> with_reducible rfl)); simp only [List.getElem_toArray, List.getElem_cons_zero, List.getElem_cons_succ, Act.put, List.setIfInBounds_toArray, List.set_cons_zero, List.set_cons_succ])
  (refine wpAnyH_take (i := 11) (v := ?_) rfl (by kernel_rfl) (by kernel_rfl) (by kernel_rfl) (fun _ _ _ h => h) (Or.inl ⟨by rfl, ?_⟩) hHeld ?_; rotate_left; (intro w hSw; (obtain ⟨s0, s1⟩ := hSw); (go_simp <;> with_reducible rfl)); simp only [List.getElem_toArray, List.getElem_cons_zero, List.getElem_cons_succ, Act.put, List.setIfInBounds_toArray, List.set_cons_zero, List.set_cons_succ])
  (refine wpAnyH_take (i := 12) (v := ?_) rfl (by kernel_rfl) (by kernel_rfl) (by kernel_rfl) (fun _ _ _ h => h) (Or.inl ⟨by rfl, ?_⟩) hHeld ?_; rotate_left; (intro w hSw; (obtain ⟨s0, s1⟩ := hSw); (go_simp <;> with_reducible rfl)); simp only [List.getElem_toArray, List.getElem_cons_zero, List.getElem_cons_succ, Act.put, List.setIfInBounds_toArray, List.set_cons_zero, List.set_cons_succ])
  (refine wpAnyH_take (i := 13) (v := ?_) rfl (by kernel_rfl) (by kernel_rfl) (by kernel_rfl) (fun _ _ _ h => h) (Or.inl ⟨by rfl, ?_⟩) hHeld ?_; rotate_left; (intro w hSw; (obtain ⟨s0, s1⟩ := hSw); (go_simp <;> with_reducible rfl)); simp only [List.getElem_toArray, List.getElem_cons_zero, List.getElem_cons_succ, Act.put, List.setIfInBounds_toArray, List.set_cons_zero, List.set_cons_succ])
  (refine wpAnyH_take (i := 15) (v := ?_) rfl (by kernel_rfl) (by kernel_rfl) (by kernel_rfl) (fun _ _ _ h => h) (Or.inl ⟨by rfl, ?_⟩) hHeld ?_; rotate_left; (intro w hSw; (obtain ⟨s0, s1⟩ := hSw); (go_simp <;> with_reducible rfl)); simp only [List.getElem_toArray, List.getElem_cons_zero, List.getElem_cons_succ, Act.put, List.setIfInBounds_toArray, List.set_cons_zero, List.set_cons_succ])
  refine wpAnyH_ready (rs := [8]) (by kernel_rfl) (by simp) ?_
  refine (AllReadyH.cons rfl (fun K hK => ?_) AllReadyH.nil)
  go_simp
  (refine (HJ.out _ _ HFD9.out).mono ?_; rintro e w14 ⟨g14, c14, rfl, ho14, hb14'⟩; have hb14 := bthen hd9 hb14'; have hL14 := HL9.out.later hb14; have hS14 := And.intro hL14.three.1 hL14.three.2.1)
  refine hK.out _ _ (by first | exact hS17 | exact hS16 | exact hS15 | exact hS14 | exact hS0) (fun hHeld => ?_)
  clear hK K
  try dsimp only
  (refine wpAnyH_take (i := 9) (v := ?_) rfl (by kernel_rfl) (by kernel_rfl) (by kernel_rfl) (fun _ _ _ h => h) (Or.inl ⟨by rfl, ?_⟩) hHeld ?_; rotate_left; (intro w hSw; (obtain ⟨s0, s1⟩ := hSw); (go_simp <;> with_reducible rfl)); simp only [List.getElem_toArray, List.getElem_cons_zero, List.getElem_cons_succ, Act.put, List.setIfInBounds_toArray, List.set_cons_zero, List.set_cons_succ])
  refine wpAnyH_ready (rs := [14]) (by kernel_rfl) (by simp) ?_
  refine (AllReadyH.cons rfl (fun K hK => ?_) AllReadyH.nil)
  go_simp
  (refine (HI.out _ _ (Hh9.out.later hb14)).mono ?_; rintro e w15 ⟨g15, c15, rfl, ho15, hb15⟩; have hL15 := hL14.later hb15; have hS15 := And.intro hL15.three.1 hL15.three.2.1; obtain ⟨gc, cc, w16, hrun, ho16, hg16⟩ := app_list (c := m) 27 ho15 hb15.size (by rw [HlH.out]; omega) HlT.out (by omega) (fun i hi => by rw [Nat.zero_add, hb15.cell (p := ⟨ga, i, none⟩) (Nat.lt_of_lt_of_le hga hb14.size), hb14.cell (p := ⟨ga, i, none⟩) hga, HTc.out i hi]); rw [HlH.out] at hrun ho16; have hnn : m + m = n := (by have := HN.out; omega); rw [hnn] at hrun ho16; have hg15 := ho15.block g15 rfl; have hL16 := hL15.kept hg16 (by simp [Value.ownBlock]; (have := hb14.size; omega)); have hR16 := ((HR9.out.later hb14).later hb15).kept hg16 (by simp [Value.ownBlock]; (have := hb14.size; omega)); have hS16 := And.intro hL16.three.1 hL16.three.2.1; obtain ⟨r0, r1, r2, q0, q1, q2⟩ := hR16.three)
  refine hK.out _ _ (by first | exact hS17 | exact hS16 | exact hS15 | exact hS14 | exact hS0) (fun hHeld => ?_)
  clear hK K
  try dsimp only
  refine wpAnyH_ready (rs := [16]) (by kernel_rfl) (by simp) ?_
  refine (AllReadyH.cons rfl (fun K hK => ?_) AllReadyH.nil)
  go_simp
  skip
  refine hK.out _ _ (by first | exact hS17 | exact hS16 | exact hS15 | exact hS14 | exact hS0) (fun hHeld => ?_)
  clear hK K
  try simp only [List.getElem_toArray, List.getElem_cons_zero, List.getElem_cons_succ, Act.put, List.setIfInBounds_toArray, List.set_cons_zero, List.set_cons_succ]
  refine wpAnyH_ready (rs := [17]) (by kernel_rfl) (by simp) ?_
  refine (AllReadyH.cons rfl (fun K hK => ?_) AllReadyH.nil)
  go_simp
  (have hL17 := ((hL16.other (b' := w.heap.size) (Ne.symm hLR) 0 (.int .i64 s)).other (b' := w.heap.size) (Ne.symm hLR) 1 (.slice (some ⟨gb, 0, none⟩) m m)).other (b' := w.heap.size) (Ne.symm hLR) 2 (.slice (some ⟨g14, 0, none⟩) m c14); have hS17 := And.intro hL17.three.1 hL17.three.2.1)
  refine hK.out _ _ (by first | exact hS17 | exact hS16 | exact hS15 | exact hS14 | exact hS0) (fun hHeld => ?_)
  clear hK K
  try simp only [List.getElem_toArray, List.getElem_cons_zero, List.getElem_cons_succ, Act.put, List.setIfInBounds_toArray, List.set_cons_zero, List.set_cons_succ]
  (refine wpAnyH_take (i := 18) (v := ?_) rfl (by kernel_rfl) (by kernel_rfl) (by kernel_rfl) (fun _ _ _ h => h) (Or.inl ⟨by rfl, ?_⟩) hHeld ?_; rotate_left; (intro w hSw; (obtain ⟨s0, s1⟩ := hSw); (go_simp <;> with_reducible rfl)); simp only [List.getElem_toArray, List.getElem_cons_zero, List.getElem_cons_succ, Act.put, List.setIfInBounds_toArray, List.set_cons_zero, List.set_cons_succ])
  refine wpAnyH_done (by kernel_rfl) ?_ _
  refine NoPanic.normal ?_
  have hz14 := hb14.size
  have hz15 := hb15.size
  have hgs := grown_set3 w16 w.heap.size (.int .i64 s) (.slice (some ⟨gb, 0, none⟩) m m) (.slice (some ⟨g14, 0, none⟩) m c14)
  have hg14 := ho14.block g14 rfl
  have h99 : w9.drew.heap.size = w9.heap.size := rfl
  have hF17 := ((Ow.keptNe ((HF9.out.later hb14).later hb15) hg16 (fun j e => by simp [Value.ownBlock] at e ⊢; omega)).over (show w.heap.size < w4.heap.size by omega) hgs).mono (show w.heap.size ≤ w4.heap.size by omega)
  have hD17 := ((Ow.keptNe (ho14.later hb15) hg16 (fun j e => by simp [Value.ownBlock] at e ⊢; omega)).over (show w.heap.size < w9.heap.size by omega) hgs).mono (show w.heap.size ≤ w9.heap.size by omega)
  have hK17 := (ho16.over (show w.heap.size < w14.heap.size by omega) hgs).mono (show w.heap.size ≤ w14.heap.size by omega)
  have hB17 := below_cell (below_cell (below_cell ((bthen (bthen HBw.out hb14) hb15).trans (below_of_grown hg16 (by omega) (fun j e => by simp [Value.ownBlock] at e; omega))) (Nat.le_refl _) 0 (.int .i64 s)) (Nat.le_refl _) 1 (.slice (some ⟨gb, 0, none⟩) m m)) (Nat.le_refl _) 2 (.slice (some ⟨g14, 0, none⟩) m c14)
  go_wp2
  exact bodyPost_ret (v := .tuple #[.agg #[.int .i64 s, .slice (some ⟨gb, 0, none⟩) m m, .slice (some ⟨g14, 0, none⟩) m c14], .slice (some ⟨gc, 0, none⟩) n cc]) (by simp [results, Tryd.results69, go_sem, r0, r1, r2]) rfl ⟨_, _, _, rfl, ⟨hF17, hD17, fun g x1 x2 => by simp [Value.ownBlock] at x1 x2; omega⟩, hK17, hB17⟩
end Go.Proofs.YtgnbailcibhenaaDoor.LapV

namespace Go.Proofs.YtgnbailcibhenaaDoor.LapW
open Go.ChangeShapes Go.WideShapes Go.ChangeAt Go.RowKit Go.Proofs.YtgnbailcibhenaaDoor.Num Go.Proofs.YtgnbailcibhenaaDoor.Sli Go.Proofs.YtgnbailcibhenaaDoor.App Go.Proofs.YtgnbailcibhenaaDoor.Div Go.Proofs.YtgnbailcibhenaaDoor.Samp Go.Proofs.YtgnbailcibhenaaDoor.SampF Go.Proofs.YtgnbailcibhenaaDoor.Blk Go.Proofs.YtgnbailcibhenaaDoor.TurM Go.Proofs.YtgnbailcibhenaaDoor.HalM Go.Proofs.YtgnbailcibhenaaDoor.LapM Go.Proofs.YtgnbailcibhenaaDoor.LapN Go.Proofs.YtgnbailcibhenaaDoor.IntL Go.Proofs.YtgnbailcibhenaaDoor.IntA Go.Proofs.YtgnbailcibhenaaDoor.LapS Go.Proofs.YtgnbailcibhenaaDoor.LapT Go.Proofs.YtgnbailcibhenaaDoor.LapU Go.Proofs.YtgnbailcibhenaaDoor.LapV

/-- What FeedFrame tells beside its code. -/
def fdS (s : Int) (half rest fr : List Int) : Int := if fdC s half rest fr = 0 then s else 0
def fdU (s : Int) (half rest fr : List Int) : List Int := if fdC s half rest fr = 0 then fdH s rest fr else []
def fdV (s : Int) (half rest fr : List Int) : List Int := if fdC s half rest fr = 0 then fr.drop (hN s) else []
def fdW (s : Int) (half rest fr : List Int) : List Int := if fdC s half rest fr = 0 then fdK s half rest fr else []
/-- What PlayBlock tells beside its code. -/
def plS (s : Int) (head tail co : List Int) : Int := if plC s head tail co = 0 then s else 0
def plU (s : Int) (head tail co : List Int) : List Int := if plC s head tail co = 0 then plH s tail co else []
def plV (s : Int) (head tail co : List Int) : List Int := if plC s head tail co = 0 then (plB s co).drop (hN s) else []
def plW (s : Int) (head tail co : List Int) : List Int := if plC s head tail co = 0 then head ++ plT s tail co else []
/-- What is kept: the argument's block, the answer's block. -/
structure FS (w : World) (A : Array Value) (t : TypeId) (B : Array Value) (u : TypeId) (W : World) : Prop where
  l : Blk W w.heap.size A t
  r : Blk W (w.heap.size + 1) B u
  b : Below w.heap.size w W
theorem FS.new (w : World) (A : Array Value) (t : TypeId) (B : Array Value) (u : TypeId) : FS w A t B u ((w.alloc (.cells A t)).alloc (.cells B u)) := by
  refine ⟨(Blk.new w A t).alloc _, ?_, bmore (bmore (Below.refl _ _) _) _⟩
  have := Blk.new (w.alloc (.cells A t)) B u
  rwa [World.size_alloc] at this
theorem FS.later {w : World} {A : Array Value} {t : TypeId} {B : Array Value} {u : TypeId} {W W' : World} (h : FS w A t B u W) (hb : Below W.heap.size W W') : FS w A t B u W' := ⟨h.l.later hb, h.r.later hb, bthen h.b hb⟩
theorem below5 {w W : World} (h : Below w.heap.size w W) (x y z u v : Value) : Below w.heap.size w (((((W.setCell ⟨w.heap.size + 1, 0, none⟩ x).setCell ⟨w.heap.size + 1, 1, none⟩ y).setCell ⟨w.heap.size + 1, 2, none⟩ z).setCell ⟨w.heap.size + 1, 3, none⟩ u).setCell ⟨w.heap.size + 1, 4, none⟩ v) :=
  below_cell (below_cell (below_cell (below_cell (below_cell h (by omega) _ _) (by omega) _ _) (by omega) _ _) (by omega) _ _) (by omega) _ _
theorem _root_.Go.Proofs.YtgnbailcibhenaaDoor.LapS.TW.set5 {base R : Nat} {u t : Value} {S D : List Int} {W : World} (h : TW base u t S D W) (hR : R < base) (x y z v a : Value) : TW R u t S D (((((W.setCell ⟨R, 0, none⟩ x).setCell ⟨R, 1, none⟩ y).setCell ⟨R, 2, none⟩ z).setCell ⟨R, 3, none⟩ v).setCell ⟨R, 4, none⟩ a) := (h.over hR (grown_set5 W R x y z v a)).mono (by omega)
set_option maxRecDepth 100000 in
set_option maxHeartbeats 4000000 in
theorem specFeedFrame_calls (s : Int) (vh vr vf : Value) (half rest fr : List Int) (w : World) (h1 : Sl .i64 w vh half) (h2 : Sl .i64 w vr rest) (h3 : Sl .i64 w vf fr) (hf : Fits vf) (m1 : half.length ≤ 1048576) (m2 : rest.length ≤ 1048576) :
    Calls Tryd.prog 18 #[.agg #[.int .i64 s, vh, vr], vf] w fun e w' => ∃ u t k, e = .returned (.agg #[.int .i64 (fdC s half rest fr), .int .i64 (fdS s half rest fr), u, t, k]) ∧ TW w.heap.size u t (fdU s half rest fr) (fdV s half rest fr) w' ∧ OwI w.heap.size w' k (fdW s half rest fr) ∧ Below w.heap.size w w' := by
  have HA := hid (fun W (q1 : Sl .i64 W vh half) (q2 : Sl .i64 W vr rest) => specLapFault_calls s vh vr half rest W q1 q2 m1 m2)
  have HB := hid (fun W (q : Sl .i64 W vf fr) => specSamplesFault_calls s vf fr W q)
  have HN : Hid (∀ (W : World) (c : Int), fdC s half rest fr = c → c ≠ 0 → Below w.heap.size w W → ∃ u t k, Ending.returned (.agg #[.int .i64 c, .int .i64 0, .slice none 0 0, .slice none 0 0, .slice none 0 0]) = .returned (.agg #[.int .i64 (fdC s half rest fr), .int .i64 (fdS s half rest fr), u, t, k]) ∧ TW w.heap.size u t (fdU s half rest fr) (fdV s half rest fr) W ∧ OwI w.heap.size W k (fdW s half rest fr) ∧ Below w.heap.size w W) := by
    intro W c e1 e2 hb
    subst e1
    refine ⟨_, _, _, by rw [show fdS s half rest fr = 0 from if_neg e2], ?_, ?_, hb⟩
    · rw [show fdU s half rest fr = [] from if_neg e2, show fdV s half rest fr = [] from if_neg e2]; exact TW.nil _ _
    · rw [show fdW s half rest fr = [] from if_neg e2]; exact ow_nil _ _
  have HK0 : Hid (FS w #[.int .i64 s, vh, vr] 29 #[.int .i64 0, .int .i64 0, .slice none 0 0, .slice none 0 0, .slice none 0 0] 41 _) := FS.new w _ _ _ _
  have H1 := hid (h1.later HK0.out.b)
  have H2 := hid (h2.later HK0.out.b)
  have H3 := hid (h3.later HK0.out.b)
  have Hf := hid hf
  obtain ⟨a1, c1, rfl, -⟩ := id h1
  obtain ⟨a2, c2, rfl, -⟩ := id h2
  obtain ⟨a3, c3, rfl, -⟩ := id h3
  clear h1 h2 h3 hf
  by_cases hl : lfC s half rest = 0
  · rw [hl] at HA
    by_cases hs : smF s fr = 0
    · have hc : fdC s half rest fr = 0 := by unfold fdC; rw [if_pos hl]; exact hs
      have HE : Hid (fdS s half rest fr = s ∧ fdU s half rest fr = fdH s rest fr ∧ fdV s half rest fr = fr.drop (hN s) ∧ fdW s half rest fr = fdK s half rest fr) := ⟨if_pos hc, if_pos hc, if_pos hc, if_pos hc⟩
      have HF := hid (fun W L v1 v2 v3 (hL : Blk W L #[.int .i64 s, v1, v2] 29) (q1 : Sl .i64 W v1 half) (q2 : Sl .i64 W v2 rest) (q3 : Sl .i64 W v3 fr) (q4 : Fits v3) => l7Feed_calls L s v1 v2 v3 half rest fr W hL q1 q2 q3 q4 hc)
      rw [hs] at HB
      rw [hc, HE.out.1, HE.out.2.1, HE.out.2.2.1, HE.out.2.2.2]
      clear hl hs hc HE HN
      generalize fdH s rest fr = rF at *
      generalize fdK s half rest fr = rK at *
      generalize fr.drop (hN s) = rD at *
      obtain ⟨t0, t1, t2, _⟩ := HK0.out.l.three
      go_enter Tryd.func18, Tryd.ntmps18
      go_wp2_with fail
      refine (HA.out _ H1.out H2.out).mono ?_
      rintro e w1 ⟨rfl, hb1⟩
      have HK1 := hid (HK0.out.later hb1)
      have H11 := hid (H1.out.later hb1)
      have H21 := hid (H2.out.later hb1)
      have H31 := hid (H3.out.later hb1)
      obtain ⟨t0, t1, t2, _⟩ := HK1.out.l.three
      clear hb1 HK0 H1 H2 H3 HA
      go_wp2_with fail
      refine (HB.out _ H31.out).mono ?_
      rintro e w2 ⟨rfl, hb2⟩
      have HK2 := hid (HK1.out.later hb2)
      have H12 := hid (H11.out.later hb2)
      have H22 := hid (H21.out.later hb2)
      have H32 := hid (H31.out.later hb2)
      clear hb2 HK1 H11 H21 H31 HB t0 t1 t2
      go_wp2_with fail
      refine (HF.out _ _ _ _ _ HK2.out.l H12.out H22.out H32.out Hf.out).mono ?_
      rintro e w3 ⟨u, t, k, rfl, ht, hk, hb3⟩
      have HK3 := hid (HK2.out.later hb3)
      obtain ⟨au, cu, rfl, -⟩ := ht.s.sl
      obtain ⟨at', ct, rfl, -⟩ := ht.d.sl
      obtain ⟨ak, ck, rfl, -⟩ := hk.sl
      have hz2 := HK2.out.r.lt
      have HT := hid ((ht.set5 (R := w.heap.size + 1) hz2 (.int .i64 0) (.int .i64 s) (.slice au rF.length cu) (.slice at' rD.length ct) (.slice ak rK.length ck)).later (bmore (Below.refl _ _) (.cells #[.int .i64 s, .slice au rF.length cu, .slice at' rD.length ct] 29)))
      have HO := hid (((hk.over hz2 (grown_set5 _ (w.heap.size + 1) (.int .i64 0) (.int .i64 s) (.slice au rF.length cu) (.slice at' rD.length ct) (.slice ak rK.length ck))).mono (Nat.le_of_lt hz2)).alloc (.cells #[.int .i64 s, .slice au rF.length cu, .slice at' rD.length ct] 29))
      have HBf := hid (bmore (below5 HK3.out.b (.int .i64 0) (.int .i64 s) (.slice au rF.length cu) (.slice at' rD.length ct) (.slice ak rK.length ck)) (.cells #[.int .i64 s, .slice au rF.length cu, .slice at' rD.length ct] 29))
      obtain ⟨r0, r1, r2, r3, r4, q0, q1, q2, q3, q4⟩ := HK3.out.r.five
      have hlt := HK3.out.r.lt
      clear ht hk hb3 HK2 H12 H22 H32 HF HK3
      go_wp2
      exact bodyPost_ret (v := .agg #[.int .i64 0, .int .i64 s, .slice au rF.length cu, .slice at' rD.length ct, .slice ak rK.length ck]) (by simp [results, Tryd.results18, go_sem, r0, r1, r2, r3, r4, hlt]) rfl ⟨_, _, _, rfl, HT.out.mono (by omega), HO.out.mono (by omega), HBf.out⟩
    · have hc : fdC s half rest fr = smF s fr := by unfold fdC; rw [if_pos hl]
      have HE := hid (fun W hb => HN.out W (smF s fr) hc hs hb)
      have hsb : (smF s fr != 0) = true := by simpa using hs
      clear hl hs hc HN
      generalize smF s fr = c at *
      obtain ⟨t0, t1, t2, _⟩ := HK0.out.l.three
      go_enter Tryd.func18, Tryd.ntmps18
      go_wp2_with fail
      refine (HA.out _ H1.out H2.out).mono ?_
      rintro e w1 ⟨rfl, hb1⟩
      have HK1 := hid (HK0.out.later hb1)
      have H31 := hid (H3.out.later hb1)
      obtain ⟨t0, t1, t2, _⟩ := HK1.out.l.three
      clear hb1 HK0 H1 H2 H3 HA
      go_wp2_with fail
      refine (HB.out _ H31.out).mono ?_
      rintro e w2 ⟨rfl, hb2⟩
      have HK2 := hid (HK1.out.later hb2)
      obtain ⟨r0, r1, r2, r3, r4, q0, q1, q2, q3, q4⟩ := HK2.out.r.five
      clear hb2 HK1 H31 HB t0 t1 t2
      go_wp2
      exact bodyPost_ret (v := .agg #[.int .i64 c, .int .i64 0, .slice none 0 0, .slice none 0 0, .slice none 0 0]) (by simp [results, Tryd.results18, go_sem, r0, r1, r2, r3, r4]) rfl (HE.out _ (below5 HK2.out.b _ _ _ _ _))
  · have hc : fdC s half rest fr = lfC s half rest := by unfold fdC; rw [if_neg hl]
    have HE := hid (fun W hb => HN.out W (lfC s half rest) hc hl hb)
    have hsb : (lfC s half rest != 0) = true := by simpa using hl
    clear hl hc HN HB
    generalize lfC s half rest = c at *
    obtain ⟨t0, t1, t2, _⟩ := HK0.out.l.three
    go_enter Tryd.func18, Tryd.ntmps18
    go_wp2_with fail
    refine (HA.out _ H1.out H2.out).mono ?_
    rintro e w1 ⟨rfl, hb1⟩
    have HK1 := hid (HK0.out.later hb1)
    obtain ⟨r0, r1, r2, r3, r4, q0, q1, q2, q3, q4⟩ := HK1.out.r.five
    clear hb1 HK0 H1 H2 H3 HA t0 t1 t2
    go_wp2
    exact bodyPost_ret (v := .agg #[.int .i64 c, .int .i64 0, .slice none 0 0, .slice none 0 0, .slice none 0 0]) (by simp [results, Tryd.results18, go_sem, r0, r1, r2, r3, r4]) rfl (HE.out _ (below5 HK1.out.b _ _ _ _ _))
set_option maxRecDepth 100000 in
set_option maxHeartbeats 4000000 in
theorem specPlayBlock_calls (s : Int) (vh vt vc : Value) (head tail co : List Int) (w : World) (h1 : Sl .i64 w vh head) (h2 : Sl .i64 w vt tail) (h3 : Sl .i64 w vc co) (m1 : head.length ≤ 1048576) (m2 : tail.length ≤ 1048576) (m3 : co.length ≤ 1048576) :
    Calls Tryd.prog 19 #[.agg #[.int .i64 s, vh, vt], vc] w fun e w' => ∃ u t k, e = .returned (.agg #[.int .i64 (plC s head tail co), .int .i64 (plS s head tail co), u, t, k]) ∧ TW w.heap.size u t (plU s head tail co) (plV s head tail co) w' ∧ OwI w.heap.size w' k (plW s head tail co) ∧ Below w.heap.size w w' := by
  have HA := hid (fun W (q1 : Sl .i64 W vh head) (q2 : Sl .i64 W vt tail) => specSynthFault_calls s vh vt head tail W q1 q2 m1 m2)
  have HB := hid (fun W (q : Sl .i64 W vc co) => BloS.l6Ask_calls vc co 16777216 W q m3 (by omega) (by omega))
  rw [show BloS.akC 16777216 co = gbC co from rfl] at HB
  have HN : Hid (∀ (W : World) (c : Int), plC s head tail co = c → c ≠ 0 → Below w.heap.size w W → ∃ u t k, Ending.returned (.agg #[.int .i64 c, .int .i64 0, .slice none 0 0, .slice none 0 0, .slice none 0 0]) = .returned (.agg #[.int .i64 (plC s head tail co), .int .i64 (plS s head tail co), u, t, k]) ∧ TW w.heap.size u t (plU s head tail co) (plV s head tail co) W ∧ OwI w.heap.size W k (plW s head tail co) ∧ Below w.heap.size w W) := by
    intro W c e1 e2 hb
    subst e1
    refine ⟨_, _, _, by rw [show plS s head tail co = 0 from if_neg e2], ?_, ?_, hb⟩
    · rw [show plU s head tail co = [] from if_neg e2, show plV s head tail co = [] from if_neg e2]; exact TW.nil _ _
    · rw [show plW s head tail co = [] from if_neg e2]; exact ow_nil _ _
  have HK0 : Hid (FS w #[.int .i64 s, vh, vt] 34 #[.int .i64 0, .int .i64 0, .slice none 0 0, .slice none 0 0, .slice none 0 0] 48 _) := FS.new w _ _ _ _
  have H1 := hid (h1.later HK0.out.b)
  have H2 := hid (h2.later HK0.out.b)
  have H3 := hid (h3.later HK0.out.b)
  obtain ⟨a1, c1, rfl, -⟩ := id h1
  obtain ⟨a2, c2, rfl, -⟩ := id h2
  obtain ⟨a3, c3, rfl, -⟩ := id h3
  clear h1 h2 h3
  by_cases hl : syC s head tail = 0
  · rw [hl] at HA
    by_cases hn : (co.length : Int) = s
    · by_cases hs : gbC co = 0
      · have hc : plC s head tail co = 0 := by unfold plC; rw [if_pos hl, if_pos hn]; exact hs
        have HE : Hid (plS s head tail co = s ∧ plU s head tail co = plH s tail co ∧ plV s head tail co = (plB s co).drop (hN s) ∧ plW s head tail co = head ++ plT s tail co) := ⟨if_pos hc, if_pos hc, if_pos hc, if_pos hc⟩
        have HF := hid (fun W L v1 v2 v3 (hL : Blk W L #[.int .i64 s, v1, v2] 34) (q1 : Sl .i64 W v1 head) (q2 : Sl .i64 W v2 tail) (q3 : Sl .i64 W v3 co) => l7Play_calls L s v1 v2 v3 head tail co W hL q1 q2 q3 hc)
        rw [hs] at HB
        rw [hc, HE.out.1, HE.out.2.1, HE.out.2.2.1, HE.out.2.2.2]
        have hnb : ((co.length : Int) != s) = false := by simpa using hn
        clear hl hs hc HE HN hn
        generalize plH s tail co = rF at *
        generalize head ++ plT s tail co = rK at *
        generalize (plB s co).drop (hN s) = rD at *
        obtain ⟨t0, t1, t2, _⟩ := HK0.out.l.three
        go_enter Tryd.func19, Tryd.ntmps19
        go_wp2_with fail
        refine (HA.out _ H1.out H2.out).mono ?_
        rintro e w1 ⟨rfl, hb1⟩
        have HK1 := hid (HK0.out.later hb1)
        have H11 := hid (H1.out.later hb1)
        have H21 := hid (H2.out.later hb1)
        have H31 := hid (H3.out.later hb1)
        obtain ⟨t0, t1, t2, _⟩ := HK1.out.l.three
        clear hb1 HK0 H1 H2 H3 HA
        go_wp2_with fail
        refine (HB.out _ H31.out).mono ?_
        rintro e w2 ⟨rfl, rfl⟩
        clear HB
        go_wp2_with fail
        refine (HF.out _ _ _ _ _ HK1.out.l H11.out H21.out H31.out).mono ?_
        rintro e w3 ⟨u, t, k, rfl, ht, hk, hb3⟩
        have HK3 := hid (HK1.out.later hb3)
        obtain ⟨au, cu, rfl, -⟩ := ht.s.sl
        obtain ⟨at', ct, rfl, -⟩ := ht.d.sl
        obtain ⟨ak, ck, rfl, -⟩ := hk.sl
        have hz2 := HK1.out.r.lt
        have HT := hid ((ht.set5 (R := w.heap.size + 1) hz2 (.int .i64 0) (.int .i64 s) (.slice au rF.length cu) (.slice at' rD.length ct) (.slice ak rK.length ck)).later (bmore (Below.refl _ _) (.cells #[.int .i64 s, .slice au rF.length cu, .slice at' rD.length ct] 34)))
        have HO := hid (((hk.over hz2 (grown_set5 _ (w.heap.size + 1) (.int .i64 0) (.int .i64 s) (.slice au rF.length cu) (.slice at' rD.length ct) (.slice ak rK.length ck))).mono (Nat.le_of_lt hz2)).alloc (.cells #[.int .i64 s, .slice au rF.length cu, .slice at' rD.length ct] 34))
        have HBf := hid (bmore (below5 HK3.out.b (.int .i64 0) (.int .i64 s) (.slice au rF.length cu) (.slice at' rD.length ct) (.slice ak rK.length ck)) (.cells #[.int .i64 s, .slice au rF.length cu, .slice at' rD.length ct] 34))
        obtain ⟨r0, r1, r2, r3, r4, q0, q1, q2, q3, q4⟩ := HK3.out.r.five
        have hlt := HK3.out.r.lt
        clear ht hk hb3 HK1 H11 H21 H31 HF HK3 t0 t1 t2
        go_wp2
        exact bodyPost_ret (v := .agg #[.int .i64 0, .int .i64 s, .slice au rF.length cu, .slice at' rD.length ct, .slice ak rK.length ck]) (by simp [results, Tryd.results19, go_sem, r0, r1, r2, r3, r4, hlt]) rfl ⟨_, _, _, rfl, HT.out.mono (by omega), HO.out.mono (by omega), HBf.out⟩
      · have hc : plC s head tail co = gbC co := by unfold plC; rw [if_pos hl, if_pos hn]
        have HE := hid (fun W hb => HN.out W (gbC co) hc hs hb)
        have hsb : (gbC co != 0) = true := by simpa using hs
        have hnb : ((co.length : Int) != s) = false := by simpa using hn
        clear hl hs hc HN hn
        generalize gbC co = c at *
        obtain ⟨t0, t1, t2, _⟩ := HK0.out.l.three
        go_enter Tryd.func19, Tryd.ntmps19
        go_wp2_with fail
        refine (HA.out _ H1.out H2.out).mono ?_
        rintro e w1 ⟨rfl, hb1⟩
        have HK1 := hid (HK0.out.later hb1)
        have H31 := hid (H3.out.later hb1)
        obtain ⟨t0, t1, t2, _⟩ := HK1.out.l.three
        clear hb1 HK0 H1 H2 H3 HA
        go_wp2_with fail
        refine (HB.out _ H31.out).mono ?_
        rintro e w2 ⟨rfl, rfl⟩
        obtain ⟨r0, r1, r2, r3, r4, q0, q1, q2, q3, q4⟩ := HK1.out.r.five
        clear H31 HB
        go_wp2
        exact bodyPost_ret (v := .agg #[.int .i64 c, .int .i64 0, .slice none 0 0, .slice none 0 0, .slice none 0 0]) (by simp [results, Tryd.results19, go_sem, r0, r1, r2, r3, r4]) rfl (HE.out _ (below5 HK1.out.b _ _ _ _ _))
    · have hc : plC s head tail co = 2 := by unfold plC; rw [if_pos hl, if_neg hn]
      have HE := hid (fun W hb => HN.out W 2 hc (by decide) hb)
      have hnb : ((co.length : Int) != s) = true := by simpa using hn
      clear hl hc HN hn HB
      obtain ⟨t0, t1, t2, _⟩ := HK0.out.l.three
      go_enter Tryd.func19, Tryd.ntmps19
      go_wp2_with fail
      refine (HA.out _ H1.out H2.out).mono ?_
      rintro e w1 ⟨rfl, hb1⟩
      have HK1 := hid (HK0.out.later hb1)
      obtain ⟨t0, t1, t2, _⟩ := HK1.out.l.three
      obtain ⟨r0, r1, r2, r3, r4, q0, q1, q2, q3, q4⟩ := HK1.out.r.five
      clear hb1 HK0 H1 H2 H3 HA
      go_wp2
      exact bodyPost_ret (v := .agg #[.int .i64 2, .int .i64 0, .slice none 0 0, .slice none 0 0, .slice none 0 0]) (by simp [results, Tryd.results19, go_sem, r0, r1, r2, r3, r4]) rfl (HE.out _ (below5 HK1.out.b _ _ _ _ _))
  · have hc : plC s head tail co = syC s head tail := by unfold plC; rw [if_neg hl]
    have HE := hid (fun W hb => HN.out W (syC s head tail) hc hl hb)
    have hsb : (syC s head tail != 0) = true := by simpa using hl
    clear hl hc HN HB
    generalize syC s head tail = c at *
    obtain ⟨t0, t1, t2, _⟩ := HK0.out.l.three
    go_enter Tryd.func19, Tryd.ntmps19
    go_wp2_with fail
    refine (HA.out _ H1.out H2.out).mono ?_
    rintro e w1 ⟨rfl, hb1⟩
    have HK1 := hid (HK0.out.later hb1)
    obtain ⟨r0, r1, r2, r3, r4, q0, q1, q2, q3, q4⟩ := HK1.out.r.five
    clear hb1 HK0 H1 H2 H3 HA t0 t1 t2
    go_wp2
    exact bodyPost_ret (v := .agg #[.int .i64 c, .int .i64 0, .slice none 0 0, .slice none 0 0, .slice none 0 0]) (by simp [results, Tryd.results19, go_sem, r0, r1, r2, r3, r4]) rfl (HE.out _ (below5 HK1.out.b _ _ _ _ _))
end Go.Proofs.YtgnbailcibhenaaDoor.LapW
