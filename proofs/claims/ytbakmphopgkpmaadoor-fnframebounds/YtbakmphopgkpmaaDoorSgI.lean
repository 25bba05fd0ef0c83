/- The program weaves two lists into one, parts one again, spreads a list into coefficients and gathers it. Conditions: the table of turns, 1, 2, 4, 8 or 16 numbers, not too great. -/
import Derived.Test.YtbakmphopgkpmaaDoorUnI
import Derived.Test.YtbakmphopgkpmaaDoorGg
namespace Go.Proofs.YtbakmphopgkpmaaDoor.SgI
open Go.ChangeShapes Go.WideShapes Go.ChangeAt Go.RowKit Go.Proofs.YtbakmphopgkpmaaDoor.Num Go.Proofs.YtbakmphopgkpmaaDoor.Sli Go.Proofs.YtbakmphopgkpmaaDoor.App Go.Proofs.YtbakmphopgkpmaaDoor.Samp Go.Proofs.YtbakmphopgkpmaaDoor.Blk Go.Proofs.YtbakmphopgkpmaaDoor.TurM Go.Proofs.YtbakmphopgkpmaaDoor.HalM Go.Proofs.YtbakmphopgkpmaaDoor.IntL Go.Proofs.YtbakmphopgkpmaaDoor.IntA Go.Proofs.YtbakmphopgkpmaaDoor.TurI Go.Proofs.YtbakmphopgkpmaaDoor.WayM Go.Proofs.YtbakmphopgkpmaaDoor.WayJ Go.Proofs.YtbakmphopgkpmaaDoor.BkI Go.Proofs.YtbakmphopgkpmaaDoor.HvI Go.Proofs.YtbakmphopgkpmaaDoor.UnI Go.Proofs.YtbakmphopgkpmaaDoor.SprS Go.Proofs.YtbakmphopgkpmaaDoor.GatS

theorem make_0 (m : Nat) (hm : m ≤ 1048576) (W : World) : (Instr.makeSlice 30 (.int .i64 0) (.int .i64 (m : Int))).run Tryd.prog W = .ok (.slice (some ⟨W.heap.size, 0, none⟩) 0 m) (W.alloc (.cells (cs (List.replicate m 0)) 2)) := by
  obtain ⟨i0, hi, hz0, hz1, hz2⟩ := info_parts infoJ
  have := run_make (P := Tryd.prog) W 30 2 i0 (.int .i64 0) Tryd.underlying30 hi hz0 .i64 .i64 0 (m : Int) (by omega) (by omega) (by rw [hz2]; omega) (by omega)
  rw [hz1, Nat.mul_one, Int.toNat_natCast, show (Value.int .i64 0).cells = #[Value.int .i64 0] from rfl, made_cs] at this
  exact this
theorem ow_made (w : World) (m : Nat) (hm : m ≤ 1048576) : OwI w.heap.size (w.alloc (.cells (cs (List.replicate m 0)) 2)) (.slice (some ⟨w.heap.size, 0, none⟩) 0 m) [] :=
  ⟨rfl, Or.inr ⟨w.heap.size, m, cs (List.replicate m 0), rfl, Nat.le_refl _, heap_alloc_new w _, Nat.zero_le _, by unfold maxLen; omega, by simp [cs], by simp⟩⟩
/-- Two lists that grow and share no block. -/
structure UK (w : World) (u t : Value) (E O : List Int) (W : World) : Prop where
  ne : ∀ g, u.ownBlock = some g → t.ownBlock ≠ some g
  s : OwI w.heap.size W u E
  d : OwI w.heap.size W t O
  b : Below w.heap.size w W
set_option maxHeartbeats 1000000 in
theorem unweave_calls (v : Value) (c : List Int) (m : Nat) (w : World) (h : Sl .i64 w v c) (hl : c.length = 2 * m) (hm : 1 ≤ m ∧ m ≤ 8) :
    Calls Tryd.prog 104 #[v] w fun e w' => ∃ u t, e = .returned (.tuple #[u, t]) ∧ UK w u t (ev c) (od c) w' := by
  have EE : Hid (ev c = mkL m (evE c)) := by show mkL _ _ = _; rw [show c.length / 2 = m by omega]; rfl
  have EO : Hid (od c = mkL m (odE c)) := by show mkL _ _ = _; rw [show c.length / 2 = m by omega]; rfl
  have HEv := hid (fun i => show evE c i = c.getD (2 * i) 0 from rfl)
  have HOd := hid (fun i => show odE c i = c.getD (2 * i + 1) 0 from rfl)
  have hne : c ≠ [] := by intro e; rw [e] at hl; simp at hl; omega
  obtain ⟨a, cap, rfl, hc⟩ := h
  obtain ⟨b, off, rfl, hbl, hcell⟩ := hc hne
  rw [hl] at hcell
  have HC := hid hcell
  rw [hl]
  clear hc hcell hne hl
  obtain ⟨N, hN⟩ : ∃ N : Nat, 2 * m = N := ⟨_, rfl⟩
  rw [hN]
  rw [hN] at HC
  have HN := hid hN
  have hN16 : N ≤ 16 := by omega
  clear hN
  generalize ev c = RE at *
  generalize od c = RO at *
  generalize evE c = fe at *
  generalize odE c = fo at *
  have h0 : Hid (UK w (.slice none 0 0) (.slice none 0 0) (mkL 0 fe) (mkL 0 fo) w) := ⟨fun _ e => (by cases e), ⟨rfl, .inl ⟨rfl, rfl⟩⟩, ⟨rfl, .inl ⟨rfl, rfl⟩⟩, Below.refl _ _⟩
  go_enter Tryd.func104, Tryd.ntmps104
  go_wp2
  go_loopw [2, 3, 4] (fun s d i wr => ∃ (k n : Nat) (u t : Value), i = .int .i64 (n : Int) ∧ s = u ∧ d = t ∧ Hid (n = 2 * k) ∧ n ≤ N ∧ Hid (UK w u t (mkL k fe) (mkL k fo) wr)) (fun _ _ i _ => N - (intOf i).toNat)
  case atStart => exact ⟨0, 0, _, _, rfl, rfl, rfl, rfl, Nat.zero_le _, h0⟩
  case round =>
    obtain ⟨k, n, u, t, rfl, rfl, rfl, Hk, hn, hK⟩ := hrel
    clear h0
    by_cases hlt : n < N
    · have hn1 : n + 1 < N := by have := Hk.out; have := HN.out; omega
      have hk8 : k ≤ 8 := by have := Hk.out; omega
      have c1 := (hK.out.b.cell (p := ⟨b, off + n, none⟩) hbl).trans (HC.out n hlt)
      have x1 := HEv.out k
      have x2 := HOd.out k
      rw [← Hk.out] at x1 x2
      have Hyl : Hid ((mkL k fe).length = k ∧ (mkL k fo).length = k) := ⟨mkL_len _ _, mkL_len _ _⟩
      have ES1 := hid (mkL_succ k fe)
      have ED1 := hid (mkL_succ k fo)
      rw [← x1] at c1
      have HC2 : Hid (w.cell? ⟨b, off + (n + 1), none⟩ = some (.int .i64 (fo k))) := by show _ = _; rw [HC.out (n + 1) hn1, x2]
      clear x1 x2 HEv HOd HC EE EO
      generalize fe k = x at *
      generalize fo k = y at *
      have hsw := hK.out.b.size
      have hnI : (n : Int) < (N : Int) := by omega
      have hnI1 : (n : Int) + 1 < (N : Int) := by omega
      obtain ⟨au, cu, hu, _⟩ := hK.out.s.sl
      obtain ⟨at', ct, ht, _⟩ := hK.out.d.sl
      rw [Hyl.out.1] at hu
      rw [Hyl.out.2] at ht
      subst hu ht
      have HO1 := hid (hK.out.s.alloc (.cells #[.int .i64 x] 2))
      have HQ1 := hid (hK.out.d.alloc (.cells #[.int .i64 x] 2))
      have HL1 := hid (bmore hK.out.b (.cells #[.int .i64 x] 2))
      have HNe := hid hK.out.ne
      clear hK
      go_wp2_with (at_builtin; refine wpList_append_ints _ rfl _ _ rfl w.heap.size _ (mkL k fe) rfl HO1.out _ [x] rfl (sl_lit _ _ _ _ _ _ rfl rfl) (by simp) ?c1 ?c2 ?_)
      case c1 => rw [Hyl.out.1]; simp only [List.length_singleton]; omega
      case c2 => simp; omega
      intro g5 cap5 n5 w5 hn5 ho5 hg5 hat5
      have Hn5 : Hid (n5 = k + 1) := by show _ = _; have := Hyl.out.1; first | omega | (simp only [List.length_append, List.length_singleton] at hn5; omega)
      have HNe5 : Hid (∀ g, (Value.slice at' k ct).ownBlock = some g → g ≠ g5) := by
        intro g e
        rcases hat5 with h | h
        · intro eg; subst eg; exact HNe.out _ h e
        · have := (HQ1.out.block g e).2
          rw [World.size_alloc] at this
          first | omega | (rw [World.size_alloc] at h; omega)
      have HD5 := hid (Ow.keptNe HQ1.out hg5 (fun j e => HNe.out j e))
      have HL5 := hid (HL1.out.trans (below_of_grown hg5 (by simp; omega) (fun i e => (HO1.out.block i e).1)))
      have HS5 := hid ho5
      have hs5 : wr.heap.size + 1 ≤ w5.heap.size := by have := hg5.size; simpa using this
      have hb5 := HS5.out.block g5 rfl
      have c2 := (HL5.out.cell (p := ⟨b, off + (n + 1), none⟩) hbl).trans HC2.out
      clear hn5 ho5 hg5 hat5 HO1 HQ1 HL1 HNe HC2
      have HO6 := hid (HD5.out.alloc (.cells #[.int .i64 y] 2))
      have HQ6 := hid (HS5.out.alloc (.cells #[.int .i64 y] 2))
      have HL6 := hid (bmore HL5.out (.cells #[.int .i64 y] 2))
      clear HD5 HS5 HL5
      go_wp2_with (at_builtin; refine wpList_append_ints _ rfl _ _ rfl w.heap.size _ (mkL k fo) rfl HO6.out _ [y] rfl (sl_lit _ _ _ _ _ _ rfl rfl) (by simp) ?c1 ?c2 ?_)
      case c1 => rw [Hyl.out.2]; simp only [List.length_singleton]; omega
      case c2 => simp; omega
      intro g7 cap7 n7 w7 hn7 ho7 hg7 hat7
      have Hn7 : Hid (n7 = k + 1) := by show _ = _; have := Hyl.out.2; first | omega | (simp only [List.length_append, List.length_singleton] at hn7; omega)
      have hne7 : g5 ≠ g7 := by
        rcases hat7 with h | h
        · exact (HNe5.out g7 h).symm
        · omega
      have HK7 : Hid (UK w (.slice (some ⟨g5, 0, none⟩) n5 cap5) (.slice (some ⟨g7, 0, none⟩) n7 cap7) (mkL (k + 1) fe) (mkL (k + 1) fo) w7) := by
        have hS7 := Ow.keptNe HQ6.out hg7 (fun j e => by
          intro h
          have : g5 = j := by simpa [Value.ownBlock] using h
          exact HNe5.out j e this.symm)
        have hL7 := HL6.out.trans (below_of_grown hg7 (by simp; omega) (fun i e => (HO6.out.block i e).1))
        refine ⟨fun g e1 e2 => ?_, ?_, ?_, hL7⟩
        · simp [Value.ownBlock] at e1 e2; omega
        · rw [ES1.out]; exact hS7
        · rw [ED1.out]; exact ho7
      have Hk2 : Hid (n + 2 = 2 * (k + 1)) := by have := Hk.out; show _ = _; omega
      clear hn7 ho7 hg7 hat7 HO6 HQ6 HL6 Hn5 Hn7 Hk
      go_wp2
      go_roundw
      case rel => exact ⟨k + 1, n + 2, _, _, by go_num, rfl, rfl, Hk2, by omega, HK7⟩
      case measure => simp [intOf]; omega
    · obtain rfl : n = N := by omega
      have hkm : k = m := by have := Hk.out; have := HN.out; omega
      rw [hkm, ← EE.out, ← EO.out] at hK
      clear EE EO HEv HOd hkm Hk
      go_wp2
      go_ret2
      exact ⟨_, _, rfl, hK.out⟩
set_option maxHeartbeats 2000000 in
theorem gather_calls (kd : Bool) (hkd : has kd) (wv : Value) : ∀ (k : Nat) (v : Value) (c : List Int) (M : Int) (w : World), k ≤ 4 → Sl .i64 w v c → c.length = 2 ^ k → wlim kd M c → bG k M ≤ 34359738368 → Tab w → WayV kd w wv →
    Calls Tryd.prog 67 #[v, wv] w fun e w' => ∃ u, e = .returned u ∧ Sl .i64 w' u (wga kd k c) ∧ (k ≠ 0 → OwI w.heap.size w' u (wga kd k c)) ∧ Below w.heap.size w w' := by
  intro k
  induction k with
  | zero =>
    intro v l M w _ h hl _ _ _ hw
    obtain ⟨sg, rfl, _⟩ := hw
    have HS := hid h
    obtain ⟨a, cap, rfl, _⟩ := h
    have h1 : l.length = 1 := hl
    rw [h1] at HS
    rw [h1]
    clear hl h1
    unfold wayV
    go_enter Tryd.func67, Tryd.ntmps67
    go_wp2
    go_ret
    exact ⟨_, rfl, HS.out.later (bmore (Below.refl _ _) _), fun h => absurd rfl h, bmore (Below.refl _ _) _⟩
  | succ k ih =>
    intro v c M w hk h hl hM hB hT hwv
    have h0 := hM.pos
    have hsz : sz4 (2 * 2 ^ k) := by rw [show 2 * 2 ^ k = 2 ^ (k + 1) by rw [Nat.pow_succ]; omega]; exact sz4_pow hk
    have h2k : 2 ^ (k + 1) = 2 * 2 ^ k := by rw [Nat.pow_succ]; omega
    have hl2 : c.length / 2 = 2 ^ k := by rw [hl, h2k]; omega
    have hGk : bG k M ≤ 34359738368 := by
      have h1 : bG (k + 1) M = 2 * bG k M + 3 := rfl
      have := le_bG k h0
      omega
    have hl1 : (ev c).length = 2 ^ k := by rw [ev_len, hl2]
    have hl3 : (od c).length = 2 ^ k := by rw [od_len, hl2]
    have HlA := hid (wga_len kd k (ev c) hl1)
    have HlB := hid (wga_len kd k (od c) hl3)
    have HIE : Hid (∀ W v', Sl .i64 W v' (ev c) → Tab W → WayV kd W wv → Calls Tryd.prog 67 #[v', wv] W fun e w' => ∃ au cu, e = .returned (.slice au (2 ^ k : Nat) cu) ∧ Sl .i64 w' (.slice au (2 ^ k : Nat) cu) (wga kd k (ev c)) ∧ Below W.heap.size W w') := by
      intro W v' hv ht hw
      refine (ih v' (ev c) M W (by omega) hv hl1 (wlim_ev hM) hGk ht hw).mono ?_
      rintro e w' ⟨u, rfl, hs, _, hb⟩
      have hs' := hs
      obtain ⟨au, cu, rfl, _⟩ := hs
      rw [HlA.out] at hs' ⊢
      exact ⟨au, cu, rfl, hs', hb⟩
    have HIO : Hid (∀ W v', Sl .i64 W v' (od c) → Tab W → WayV kd W wv → Calls Tryd.prog 67 #[v', wv] W fun e w' => ∃ au cu, e = .returned (.slice au (2 ^ k : Nat) cu) ∧ Sl .i64 w' (.slice au (2 ^ k : Nat) cu) (wga kd k (od c)) ∧ Below W.heap.size W w') := by
      intro W v' hv ht hw
      refine (ih v' (od c) M W (by omega) hv hl3 (wlim_od hM) hGk ht hw).mono ?_
      rintro e w' ⟨u, rfl, hs, _, hb⟩
      have hs' := hs
      obtain ⟨au, cu, rfl, _⟩ := hs
      rw [HlB.out] at hs' ⊢
      exact ⟨au, cu, rfl, hs', hb⟩
    have HLA := hid ((wlim_ga k (by omega) hl1 (wlim_ev hM)).mono hGk)
    have HLB := hid ((wlim_ga k (by omega) hl3 (wlim_od hM)).mono hGk)
    have HE : Hid (wga kd (k + 1) c = wun kd (wga kd k (ev c)) (wga kd k (od c))) := rfl
    have h16 : 2 ^ k ≤ 8 ∧ 1 ≤ 2 ^ k := by
      rcases k with _ | _ | _ | _ | k
      · decide
      · decide
      · decide
      · decide
      · omega
    rw [h2k] at hl
    have HUw := hid (fun W (h : Sl .i64 W v c) => unweave_calls v c (2 ^ k) W h hl ⟨h16.2, h16.1⟩)
    have HUl := hid (wun_len kd (wga kd k (ev c)) (wga kd k (od c)))
    rw [HlA.out] at HUl
    have HUn := hid (fun W va vb (ha : Sl .i64 W va (wga kd k (ev c))) (hb : Sl .i64 W vb (wga kd k (od c))) (ht : Tab W) (hw : WayV kd W wv) => unite_calls kd hkd wv va vb _ _ W ha hb (by rw [HlA.out]; exact hsz) (by rw [HlA.out, HlB.out]) HLA.out HLB.out ht hw)
    rw [HlA.out] at HUn
    rw [← HE.out] at HUn HUl
    have HlE := hid hl1
    have HlO := hid hl3
    have HT := hid hT
    have H := hid h
    obtain ⟨sg, rfl, hSB⟩ := hwv
    have HSB := hid hSB
    obtain ⟨a, cap, rfl, _⟩ := h
    rw [hl] at H HUw ⊢
    clear ih hsz hM hB hl hl2 h2k hl1 hl3 hT hGk h0 HLA HLB HE hSB HlA HlB
    generalize wga kd (k + 1) c = R at *
    generalize wga kd k (ev c) = A at *
    generalize wga kd k (od c) = B at *
    generalize ev c = S at *
    generalize od c = D at *
    generalize 2 ^ k = m at *
    have hn1 : ((2 * m : Nat) : Int) ≠ 1 := by omega
    have hn16 : 2 * m ≤ 16 := by omega
    generalize h2m : 2 * m = n at *
    clear h2m h16
    have hnb : ((n : Int) == 1) = false := by simpa using hn1
    unfold wayV at *
    go_enter Tryd.func67, Tryd.ntmps67
    go_wp2_with fail
    refine (HUw.out _ (H.out.later (bmore (Below.refl _ _) _))).mono ?_
    rintro e w1 ⟨u1, t1, rfl, hk1⟩
    have hS1 := hk1.s.sl
    have hD1 := hk1.d.sl
    have hb1 := bthen (bmore (Below.refl _ w) _) hk1.b
    have hY1 := (Blk.new w #[.slice (some ⟨sg, 0, none⟩) 3 3, .func (.func (fP kd)) #[] #[]] 77).later hk1.b
    obtain ⟨a1, c1, rfl, _⟩ := id hS1
    obtain ⟨a2, c2, rfl, _⟩ := id hD1
    rw [HlE.out] at hS1 ⊢
    rw [HlO.out] at hD1 ⊢
    have hT1 := HT.out.later hb1
    have hW1 : WayV kd w1 (wayV kd sg) := ⟨sg, rfl, HSB.out.later hb1⟩
    obtain ⟨q0, q1, _, _⟩ := hY1.two
    have hyl := hY1.lt
    have hy3 : ∀ W, Below w1.heap.size w1 W → W.cell? ⟨w.heap.size, 0, none⟩ = some (.slice (some ⟨sg, 0, none⟩) 3 3) := fun W h => (h.cell (p := ⟨w.heap.size, 0, none⟩) hyl).trans q0
    have hy4 : ∀ W, Below w1.heap.size w1 W → W.cell? ⟨w.heap.size, 1, none⟩ = some (.func (.func (fP kd)) #[] #[]) := fun W h => (h.cell (p := ⟨w.heap.size, 1, none⟩) hyl).trans q1
    have hL1 : Below w1.heap.size w1 w1.drew := (Below.refl _ w1).drew
    have Hb1 := hid hb1
    have HS1 := hid hS1
    have HD1 := hid hD1
    have HT1 := hid hT1
    have HW1 := hid hW1
    clear hk1 HUw H HT HSB hS1 hD1 hT1 hW1 hb1 q0 q1 hY1
    go_upto_region 4 with fail
    refine wp_region_noPanic ?_
    refine wp_region_held_drew (S := fun W => Below w1.heap.size w1 W) (by kernel_rfl) (by first | exact hL4 | exact hL3 | exact hL2 | exact hL1) (fun hHeld => ?_)
    (refine wpAnyH_take (i := 0) (v := ?_) rfl (by kernel_rfl) (by kernel_rfl) (by kernel_rfl) (fun _ _ _ h => h) (Or.inl ⟨by rfl, ?_⟩) hHeld ?_; rotate_left; (intro w hSw; (have s3 := hy3 _ hSw; have s4 := hy4 _ hSw; clear hSw); (go_simp <;> with_reducible rfl)); simp only [List.getElem_toArray, List.getElem_cons_zero, Act.put, List.setIfInBounds_toArray, List.set_cons_zero, List.set_cons_succ])
    (refine wpAnyH_take (i := 1) (v := ?_) rfl (by kernel_rfl) (by kernel_rfl) (by kernel_rfl) (fun _ _ _ h => h) (Or.inl ⟨by rfl, ?_⟩) hHeld ?_; rotate_left; (intro w hSw; (have s3 := hy3 _ hSw; have s4 := hy4 _ hSw; clear hSw); (go_simp <;> with_reducible rfl)); simp only [List.getElem_toArray, List.getElem_cons_zero, List.getElem_cons_succ, Act.put, List.setIfInBounds_toArray, List.set_cons_zero, List.set_cons_succ])
    (refine wpAnyH_take (i := 3) (v := ?_) rfl (by kernel_rfl) (by kernel_rfl) (by kernel_rfl) (fun _ _ _ h => h) (Or.inl ⟨by rfl, ?_⟩) hHeld ?_; rotate_left; (intro w hSw; (have s3 := hy3 _ hSw; have s4 := hy4 _ hSw; clear hSw); (go_simp <;> with_reducible rfl)); simp only [List.getElem_toArray, List.getElem_cons_zero, List.getElem_cons_succ, Act.put, List.setIfInBounds_toArray, List.set_cons_zero, List.set_cons_succ])
    (refine wpAnyH_take (i := 4) (v := ?_) rfl (by kernel_rfl) (by kernel_rfl) (by kernel_rfl) (fun _ _ _ h => h) (Or.inl ⟨by rfl, ?_⟩) hHeld ?_; rotate_left; (intro w hSw; (have s3 := hy3 _ hSw; have s4 := hy4 _ hSw; clear hSw); (go_simp <;> with_reducible rfl)); simp only [List.getElem_toArray, List.getElem_cons_zero, List.getElem_cons_succ, Act.put, List.setIfInBounds_toArray, List.set_cons_zero, List.set_cons_succ])
    (refine wpAnyH_take (i := 6) (v := ?_) rfl (by kernel_rfl) (by kernel_rfl) (by kernel_rfl) (fun _ _ _ h => h) (Or.inl ⟨by rfl, ?_⟩) hHeld ?_; rotate_left; (intro w hSw; (have s3 := hy3 _ hSw; have s4 := hy4 _ hSw; clear hSw); (go_simp <;> with_reducible rfl)); simp only [List.getElem_toArray, List.getElem_cons_zero, List.getElem_cons_succ, Act.put, List.setIfInBounds_toArray, List.set_cons_zero, List.set_cons_succ])
    refine wpAnyH_ready (rs := [2]) (by kernel_rfl) (by simp) ?_
    refine (AllReadyH.cons rfl (fun K hK => ?_) AllReadyH.nil)
    go_simp
    (refine (HIE.out _ _ (HS1.out.later hHeld) (HT1.out.later hHeld) (HW1.out.later hHeld)).mono ?_; rintro e w2 ⟨au, cu, rfl, hA2, hb2⟩; have hL2 := bthen hHeld hb2)
    refine hK.out _ _ (by first | exact hL4 | exact hL3 | exact hL2 | exact hL1) (fun hHeld => ?_)
    clear hK K
    try dsimp only
    refine wpAnyH_ready (rs := [5]) (by kernel_rfl) (by simp) ?_
    refine (AllReadyH.cons rfl (fun K hK => ?_) AllReadyH.nil)
    go_simp
    (refine (HIO.out _ _ (HD1.out.later hHeld) (HT1.out.later hHeld) (HW1.out.later hHeld)).mono ?_; rintro e w3 ⟨at', ct, rfl, hB3, hb3⟩; have hL3 := bthen hHeld hb3; have hA3 := hA2.later hb3)
    refine hK.out _ _ (by first | exact hL4 | exact hL3 | exact hL2 | exact hL1) (fun hHeld => ?_)
    clear hK K
    try dsimp only
    refine wpAnyH_ready (rs := [7]) (by kernel_rfl) (by simp) ?_
    refine (AllReadyH.cons rfl (fun K hK => ?_) AllReadyH.nil)
    go_simp
    (refine (HUn.out _ _ _ hA3 hB3 (HT1.out.later hHeld) (HW1.out.later hHeld)).mono ?_; rintro e w4 ⟨g, rfl, hu⟩; have hL4 := bthen hHeld hu.k; have hz3 := hHeld.size)
    refine hK.out _ _ (by first | exact hL4 | exact hL3 | exact hL2 | exact hL1) (fun hHeld => ?_)
    clear hK K
    try dsimp only
    (refine wpAnyH_take (i := 8) (v := ?_) rfl (by kernel_rfl) (by kernel_rfl) (by kernel_rfl) (fun _ _ _ h => h) (Or.inl ⟨by rfl, ?_⟩) hHeld ?_; rotate_left; (intro w hSw; (have s3 := hy3 _ hSw; have s4 := hy4 _ hSw; clear hSw); (go_simp <;> with_reducible rfl)); simp only [List.getElem_toArray, List.getElem_cons_zero, List.getElem_cons_succ, Act.put, List.setIfInBounds_toArray, List.set_cons_zero, List.set_cons_succ])
    refine wpAnyH_done (by kernel_rfl) ?_ _
    refine NoPanic.normal ?_
    have HB4 := hid (bthen Hb1.out hL4)
    have HO : Hid (OwI w.heap.size w4 (.slice (some ⟨g, 0, none⟩) n n) R) := by
      have h0 := Hb1.out.size
      have := hu.b.ow (base := w.heap.size) (Nat.le_trans (Nat.le_trans h0 hz3) hu.l) (by have := HUl.out; omega)
      rwa [HUl.out] at this
    go_wp2
    go_ret
    exact ⟨_, rfl, HO.out.sl, fun _ => HO.out, HB4.out⟩
end Go.Proofs.YtbakmphopgkpmaaDoor.SgI
