/- The model's coder: l3Slots, l3Carry, l3Encode, EncodeSlots, CostOf. -/
import Derived.Test.YthecfboplfmdmaaDoorEnc
namespace Go.Proofs.YthecfboplfmdmaaDoor.EncS
open Go.ChangeShapes Go.WideShapes Go.ChangeAt Go.RowKit Go.Proofs.YthecfboplfmdmaaDoor.Num Go.Proofs.YthecfboplfmdmaaDoor.Sli Go.Proofs.YthecfboplfmdmaaDoor.App Go.Proofs.YthecfboplfmdmaaDoor.Byt Go.Proofs.YthecfboplfmdmaaDoor.CrcM Go.Proofs.YthecfboplfmdmaaDoor.Str Go.Proofs.YthecfboplfmdmaaDoor.Div Go.Proofs.YthecfboplfmdmaaDoor.Dec Go.Proofs.YthecfboplfmdmaaDoor.Blk Go.Proofs.YthecfboplfmdmaaDoor.Nxt Go.Proofs.YthecfboplfmdmaaDoor.Byte Go.Proofs.YthecfboplfmdmaaDoor.TakS Go.Proofs.YthecfboplfmdmaaDoor.TakT Go.Proofs.YthecfboplfmdmaaDoor.RngF Go.Proofs.YthecfboplfmdmaaDoor.RndF Go.Proofs.YthecfboplfmdmaaDoor.RangeM Go.Proofs.YthecfboplfmdmaaDoor.CarM Go.Proofs.YthecfboplfmdmaaDoor.Shf Go.Proofs.YthecfboplfmdmaaDoor.Nar Go.Proofs.YthecfboplfmdmaaDoor.End Go.Proofs.YthecfboplfmdmaaDoor.SlS Go.Proofs.YthecfboplfmdmaaDoor.Enc

set_option maxHeartbeats 1000000 in
theorem l3Carry_calls (u : Value) (k v : Nat) (w : World) (h : Sl .u8 w u (digs k v)) (hv : v + 1 < 256 ^ k) (hk : k ≤ 100000) :
    Calls Tryd.prog 76 #[u] w fun e w' => ∃ g cap, e = .returned (.slice (some ⟨g, 0, none⟩) k cap) ∧ OwB w.heap.size w' (.slice (some ⟨g, 0, none⟩) k cap) (digs k (v + 1)) ∧ Below w.heap.size w w' := by
  have HC := hid (l1Copy_calls u (digs k v) w h (by rw [digs_len]; omega))
  rw [digs_len] at HC
  obtain ⟨a, cap, rfl, _⟩ := h
  rw [digs_len] at *
  go_enter Tryd.func76, Tryd.ntmps76
  go_wp2_with fail
  refine HC.out.mono ?_
  rintro e w1 ⟨g, cap1, rfl, ho, hb⟩
  have hgb := ho.block g rfl
  have Ho := hid ho
  have Hb := hid hb
  have hk1 : 0 < k := by
    rcases Nat.eq_zero_or_pos k with h0 | h0
    · subst h0; simp at hv
    · exact h0
  have e0 : ((k : Int) - 1) = ((k - 1 : Nat) : Int) := by omega
  have HV := hid hv
  clear ho hb HC hv
  go_wp2_with fail
  go_loopw [4] (fun i wr => ∃ j t : Nat, i = .int .i64 ((k - 1 - j : Nat) : Int) ∧ j < k ∧ Hid (v + 1 = (t + 1) * 256 ^ j) ∧ Hid (OwB w.heap.size wr (.slice (some ⟨g, 0, none⟩) k cap1) (st (k - j) j t)) ∧ Hid (Below w.heap.size w wr)) (fun i _ => (intOf i).toNat)
  case atStart => exact ⟨0, v, (by rw [Nat.sub_zero]), hk1, (by show v + 1 = (v + 1) * 256 ^ 0; simp), (by rw [Nat.sub_zero, st_zero]; exact Ho.out), Hb.out⟩
  case round =>
    obtain ⟨j, t, rfl, hj, Hn, hO, hL⟩ := hrel
    have hl : k = (st (k - j) j t).length := by rw [st_len]; omega
    obtain ⟨hcell, hfr⟩ := hO.out.cellAt hl (k - 1 - j) (by omega)
    obtain ⟨m, hm⟩ : ∃ m, k - j = m + 1 := ⟨k - j - 1, by omega⟩
    have hm' : k - 1 - j = m := by omega
    have hget := st_get m j t
    rw [hm', hm, hget] at hcell
    rw [hm'] at hfr
    rw [hm']
    have hbd : t % 256 < 256 := Nat.mod_lt _ (by decide)
    have hmk : (m : Int) < (k : Int) := by omega
    by_cases h255 : t % 256 = 255
    · have hstep := st_step Hn.out h255
      have hj2 := st_some hstep HV.out
      obtain ⟨ho2, hg2⟩ := hO.out.set hl m 0
      rw [hm, st_next] at ho2
      have HO2 := hid ho2
      have HL2 := hid (hL.out.trans (below_of_grown hg2 (by have := hL.out.size; omega) (fun j e => by cases e; exact hgb.1)))
      have Hs := hid hstep
      have hc : ((t % 256 : Nat) : Int) = 255 := by omega
      rw [hc] at hcell
      have hr : k - 1 - (j + 1) = m - 1 ∧ k - (j + 1) = m ∧ ((m : Int) - 1 = ((m - 1 : Nat) : Int)) := by omega
      have Hr := hid hr
      have hm1 : 1 ≤ m := by omega
      clear ho2 hg2 hstep hget hbd h255 hc hl hm hm' e0 hr
      go_wp2
      go_roundw
      case rel => exact ⟨j + 1, t / 256, (by rw [Hr.out.1, ← Hr.out.2.2]), hj2, Hs.out, (by rw [Hr.out.2.1]; exact HO2.out), HL2.out⟩
      case measure => simp [intOf]; omega
    · obtain ⟨ho2, hg2⟩ := hO.out.set hl m (((t % 256 : Nat) : Int) + 1)
      rw [hm, st_done m j t h255, show m + 1 + j = k by omega, ← Hn.out] at ho2
      have HO2 := hid ho2
      have HL2 := hid (hL.out.trans (below_of_grown hg2 (by have := hL.out.size; omega) (fun j e => by cases e; exact hgb.1)))
      have hc : ((t % 256 : Nat) : Int) < 255 := by omega
      have hc0 : 0 ≤ ((t % 256 : Nat) : Int) := by omega
      clear ho2 hg2 hget hbd h255 hl hm hm' e0
      generalize ((t % 256 : Nat) : Int) = b at *
      have hb4 : (b + 1) % 256 = b + 1 := by omega
      go_wp2
      go_ret
      exact ⟨g, cap1, rfl, HO2.out, HL2.out⟩
/-- What the model's coder has told. -/
structure LK (w : World) (g cap : Nat) (ys : List Int) (W : World) : Prop where
  o : OwB w.heap.size W (.slice (some ⟨g, 0, none⟩) ys.length cap) ys
  l : Below w.heap.size w W
theorem ow_cap {base g cap n : Nat} {w : World} {xs : List Int} (h : OwB base w (.slice (some ⟨g, 0, none⟩) n cap) xs) (hn : n = xs.length) : n ≤ cap ∧ cap ≤ 9223372036854775807 := by
  subst hn
  have h' : w.ownsRow base 5 1 (.slice (some ⟨g, 0, none⟩) xs.length cap) xs.length (xs.map (Value.int .u8)) := h
  rcases h'.2 with ⟨h0, _⟩ | ⟨g', cap', cur, h0, h1, h2, h3, h4, h5, h6⟩
  · cases h0
  · cases h0
    rw [show maxLen = 9223372036854775807 by decide] at h4
    exact ⟨h3, h4⟩
theorem LK.later {w W W' : World} {g cap : Nat} {ys : List Int} (h : LK w g cap ys W) (hb : Below W.heap.size W W') : LK w g cap ys W' := ⟨h.o.later hb, h.l.trans (hb.mono h.l.size)⟩
theorem LK.appended {w W w2 : World} {g cap g2 cap2 n : Nat} {ys xs : List Int} {o : Obj} (h : LK w g cap ys W) (hn : n = xs.length) (ho : OwB w.heap.size w2 (.slice (some ⟨g2, 0, none⟩) (ys.length + n) cap2) (ys ++ xs)) (hg : (W.alloc o).grownBy w2 (some g)) :
    LK w g2 cap2 (ys ++ xs) w2 := by
  have hbl := h.o.block g rfl
  have hs := h.l.size
  refine ⟨by rw [List.length_append, ← hn]; exact ho, ?_⟩
  exact (h.l.alloc hs o).trans (below_of_grown hg (by simp; omega) (fun j e => by cases e; exact hbl.1))
/-- A digit's three ways. -/
theorem last_three (k n : Nat) (L : Int) (hL : L = ((n % 16777216 : Nat) : Int)) : digs (k + 3) n = digs k (n / 16777216) ++ [L / 65536, L / 256 % 256, L % 256] := by
  subst hL
  rw [digs_three]
  congr 1
  have e1 : ((n / 65536 % 256 : Nat) : Int) = ((n % 16777216 : Nat) : Int) / 65536 := by omega
  have e2 : ((n / 256 % 256 : Nat) : Int) = ((n % 16777216 : Nat) : Int) / 256 % 256 := by omega
  have e3 : ((n % 256 : Nat) : Int) = ((n % 16777216 : Nat) : Int) % 256 := by omega
  rw [e1, e2, e3]
set_option maxRecDepth 100000 in
set_option maxHeartbeats 4000000 in
theorem l3Encode_calls (v : Value) (ls : List Sl3) (w : World) (h : SlS w v ls) (hl4 : ls.length ≤ 400) (hok : ∀ j, j < ls.length → sG (ls.getD j (0, 0, 0)) = 0) :
    Calls Tryd.prog 55 #[v] w fun e w' => ∃ g cap, e = .returned (.slice (some ⟨g, 0, none⟩) (encL (sns ls)).length cap) ∧ OwB w.heap.size w' (.slice (some ⟨g, 0, none⟩) (encL (sns ls)).length cap) (encL (sns ls)) ∧ Below w.heap.size w w' := by
  obtain ⟨i0, hi, hz0, hz1, hz2⟩ := info_parts infoB
  have Hs := hid h
  have Hok := hid hok
  have H0 : Hid (LK w w.heap.size 0 [] (w.alloc (.cells #[] 5))) := ⟨ow_new _ _ _ _ (Nat.le_refl _), bmore (Below.refl _ _) _⟩
  obtain ⟨a, cap, rfl, hc⟩ := h
  clear hc hok
  go_enter Tryd.func55, Tryd.ntmps55
  go_wp2_with fail
  go_loopw [3, 4, 5, 6] (fun o l r i wr => ∃ (k g c : Nat) (ys : List Int) (e : En), o = .slice (some ⟨g, 0, none⟩) ys.length c ∧ l = .int .i64 ((e.n % 16777216 : Nat) : Int) ∧ r = .int .i64 (e.r : Int) ∧ i = .int .i64 (k : Int) ∧ k ≤ ls.length ∧ Hid (e = enc en0 (sns (ls.take k)) ∧ ys = digs e.k (e.n / 16777216)) ∧ Hid (LK w g c ys wr)) (fun _ _ _ i _ => ls.length - (intOf i).toNat)
  case atStart => exact ⟨0, _, _, [], en0, rfl, rfl, rfl, rfl, Nat.zero_le _, ⟨rfl, rfl⟩, H0.out⟩
  case round =>
    obtain ⟨k, g, c, ys, e, rfl, rfl, rfl, rfl, hle, he, hk⟩ := hrel
    have hoks := sns_ok hle (fun j hj => Hok.out j (by omega))
    have heok := enc_ok en0_ok hoks
    have hek := enc_k hoks (by unfold sns; rw [List.length_map, List.length_take]; omega)
    rw [← he.out.1] at heok hek
    have hyl : ys.length ≤ 510 := by rw [he.out.2, digs_len]; exact hek
    clear hoks H0
    by_cases hlt : k < ls.length
    · have hne : ls ≠ [] := by intro e; rw [e] at hlt; simp at hlt
      obtain ⟨a', cap', hv, hc⟩ := Hs.out.later hk.out.l
      cases hv
      obtain ⟨b, off, rfl, hbl, hcell⟩ := hc hne
      obtain ⟨c1, c2, c3⟩ := hcell k hlt
      have hs0 := Hok.out k hlt
      have Hst := hid (sns_take ls k hlt)
      clear hc hcell
      generalize ls.getD k (0, 0, 0) = x at *
      obtain ⟨lo, sz, tot⟩ := x
      obtain ⟨hso, x1, x2, x3⟩ := sG_of hs0
      generalize toSn (lo, sz, tot) = sn at *
      dsimp only at c1 c2 c3 x1 x2 x3
      subst x1 x2 x3
      have hsn := hso
      obtain ⟨t1, t2, t3, t4⟩ := hso
      have ⟨r1, r2, r3⟩ := heok
      obtain ⟨q1, u1, u2⟩ := unit_bd (e.r : Int) (sn.tot : Int) (by omega) (by omega) (by omega) (by omega)
      have hst := start_nat e.r sn
      have hna := nar_nat e.r sn hsn
      have hnle := nar_le (r := e.r) hsn
      have hn64 := (nar_big hsn r1).1
      have HNw := hid (fun W => l3Narrow_calls (e.r : Int) (sn.lo : Int) (sn.sz : Int) (sn.tot : Int) W (by omega) (by omega) (by omega) (by omega) (by omega) (by omega) (by omega))
      simp only [hna] at HNw
      have Hstep : Hid (enc en0 (sns (ls.take (k + 1))) = ⟨e.k + sh (nar e.r sn), (e.n + e.r / sn.tot * sn.lo) * 256 ^ sh (nar e.r sn), lift (nar e.r sn)⟩) := by
        show _ = _
        rw [Hst.out, enc_snoc, ← he.out.1]
        rfl
      have hmp := mid_parts e.n (e.r / sn.tot * sn.lo)
      have hcar : 16777216 ≤ e.n % 16777216 + e.r / sn.tot * sn.lo → e.n / 16777216 + 1 < 256 ^ e.k := by
        intro hc
        have h1 := (hmp.2 hc (by omega)).1
        have h2 : e.n + e.r / sn.tot * sn.lo < 256 ^ e.k * 16777216 := by omega
        have h3 : (e.n + e.r / sn.tot * sn.lo) / 16777216 < 256 ^ e.k := Nat.div_lt_of_lt_mul (by omega)
        omega
      have hP : e.r / sn.tot * sn.lo ≤ 16777216 := by omega
      have hN : nar e.r sn ≤ 16777216 := by omega
      have hL : e.n % 16777216 < 16777216 := Nat.mod_lt _ (by decide)
      have hUP : (e.r : Int) / (sn.tot : Int) * (sn.lo : Int) ≤ 16777216 ∧ 0 ≤ (e.r : Int) / (sn.tot : Int) * (sn.lo : Int) := by rw [hst]; omega
      have Hcar := hid hcar
      have Hmp := hid hmp
      have Hna := hid hst
      have hye := hid he.out.2
      clear hcar hmp hna hnle r3 hs0 hsn heok hst
      generalize (e.r : Int) / (sn.tot : Int) = U at *
      generalize e.r / sn.tot * sn.lo = P at *
      generalize nar e.r sn = N at *
      generalize hLn : e.n % 16777216 = L at *
      generalize hPI : U * (sn.lo : Int) = PI at *
      have hUl : wrap64 (U * (sn.lo : Int)) = PI := by rw [hPI]; exact wrap_of (by omega) (by omega)
      have hXw : wrap64 ((L : Int) + PI) = (L : Int) + PI := wrap_of (by omega) (by omega)
      have HLn := hid hLn
      have HLK := hid hk.out
      have hn0 : ¬ sn.tot = 0 := by omega
      have w1 : IntKind.i64.wrap U = U := wrapk_of (by omega) (by omega)
      have w2 : IntKind.i64.wrap (U * (sn.lo : Int)) = PI := by rw [hPI]; exact wrapk_of (by omega) (by omega)
      have w3 : IntKind.i64.wrap ((L : Int) + PI) = (L : Int) + PI := wrapk_of (by omega) (by omega)
      clear hPI hLn hk he Hst r2
      go_wp2_with fail
      refine wp_region_noPanic ?_
      refine wp_region_held_drew (S := fun W => W.cell? ⟨b, off + k * 3, none⟩ = some (.int .i64 (sn.lo : Int)) ∧ W.cell? ⟨b, off + k * 3 + 1, none⟩ = some (.int .i64 (sn.sz : Int)) ∧ W.cell? ⟨b, off + k * 3 + 2, none⟩ = some (.int .i64 (sn.tot : Int))) (by kernel_rfl) ?_ (fun hHeld => ?_)
      · exact ⟨c1, c2, c3⟩
      (refine wpAnyH_take (i := 0) (v := ?_) rfl (by kernel_rfl) (by kernel_rfl) (by kernel_rfl) (fun _ _ _ h => h) (Or.inl ⟨by rfl, ?_⟩) hHeld ?_; rotate_left; (intro w hSw; obtain ⟨s1, s2, s3⟩ := hSw; (go_simp <;> with_reducible rfl)); simp only [List.getElem_toArray, List.getElem_cons_zero, Act.put, List.setIfInBounds_toArray, List.set_cons_zero, List.set_cons_succ])
      (refine wpAnyH_take (i := 1) (v := ?_) rfl (by kernel_rfl) (by kernel_rfl) (by kernel_rfl) (fun _ _ _ h => h) (Or.inl ⟨by rfl, ?_⟩) hHeld ?_; rotate_left; (intro w hSw; obtain ⟨s1, s2, s3⟩ := hSw; (go_simp <;> with_reducible rfl)); simp only [List.getElem_toArray, List.getElem_cons_zero, List.getElem_cons_succ, Act.put, List.setIfInBounds_toArray, List.set_cons_zero, List.set_cons_succ])
      (refine wpAnyH_take (i := 2) (v := ?_) rfl (by kernel_rfl) (by kernel_rfl) (by kernel_rfl) (fun _ _ _ h => h) (Or.inl ⟨by rfl, ?_⟩) hHeld ?_; rotate_left; (intro w hSw; obtain ⟨s1, s2, s3⟩ := hSw; (go_simp <;> with_reducible rfl)); simp only [List.getElem_toArray, List.getElem_cons_zero, List.getElem_cons_succ, Act.put, List.setIfInBounds_toArray, List.set_cons_zero, List.set_cons_succ])
      (refine wpAnyH_take (i := 3) (v := ?_) rfl (by kernel_rfl) (by kernel_rfl) (by kernel_rfl) (fun _ _ _ h => h) (Or.inl ⟨by rfl, ?_⟩) hHeld ?_; rotate_left; (intro w hSw; obtain ⟨s1, s2, s3⟩ := hSw; (go_simp <;> with_reducible rfl)); simp only [List.getElem_toArray, List.getElem_cons_zero, List.getElem_cons_succ, Act.put, List.setIfInBounds_toArray, List.set_cons_zero, List.set_cons_succ])
      (refine wpAnyH_take (i := 4) (v := ?_) rfl (by kernel_rfl) (by kernel_rfl) (by kernel_rfl) (fun _ _ _ h => h) (Or.inl ⟨by rfl, ?_⟩) hHeld ?_; rotate_left; (intro w hSw; obtain ⟨s1, s2, s3⟩ := hSw; (go_simp <;> with_reducible rfl)); simp only [List.getElem_toArray, List.getElem_cons_zero, List.getElem_cons_succ, Act.put, List.setIfInBounds_toArray, List.set_cons_zero, List.set_cons_succ])
      (refine wpAnyH_take (i := 5) (v := ?_) rfl (by kernel_rfl) (by kernel_rfl) (by kernel_rfl) (fun _ _ _ h => h) (Or.inl ⟨by rfl, ?_⟩) hHeld ?_; rotate_left; (intro w hSw; obtain ⟨s1, s2, s3⟩ := hSw; (go_simp <;> with_reducible rfl)); simp only [List.getElem_toArray, List.getElem_cons_zero, List.getElem_cons_succ, Act.put, List.setIfInBounds_toArray, List.set_cons_zero, List.set_cons_succ])
      (refine wpAnyH_take (i := 6) (v := ?_) rfl (by kernel_rfl) (by kernel_rfl) (by kernel_rfl) (fun _ _ _ h => h) (Or.inl ⟨by rfl, ?_⟩) hHeld ?_; rotate_left; (intro w hSw; obtain ⟨s1, s2, s3⟩ := hSw; (go_simp <;> with_reducible rfl)); simp only [List.getElem_toArray, List.getElem_cons_zero, List.getElem_cons_succ, Act.put, List.setIfInBounds_toArray, List.set_cons_zero, List.set_cons_succ])
      (refine wpAnyH_take (i := 7) (v := ?_) rfl (by kernel_rfl) (by kernel_rfl) (by kernel_rfl) (fun _ _ _ h => h) (Or.inl ⟨by rfl, ?_⟩) hHeld ?_; rotate_left; (intro w hSw; obtain ⟨s1, s2, s3⟩ := hSw; (go_simp <;> with_reducible rfl)); simp only [List.getElem_toArray, List.getElem_cons_zero, List.getElem_cons_succ, Act.put, List.setIfInBounds_toArray, List.set_cons_zero, List.set_cons_succ])
      (refine wpAnyH_take (i := 8) (v := ?_) rfl (by kernel_rfl) (by kernel_rfl) (by kernel_rfl) (fun _ _ _ h => h) (Or.inl ⟨by rfl, ?_⟩) hHeld ?_; rotate_left; (intro w hSw; obtain ⟨s1, s2, s3⟩ := hSw; (go_simp <;> with_reducible rfl)); simp only [List.getElem_toArray, List.getElem_cons_zero, List.getElem_cons_succ, Act.put, List.setIfInBounds_toArray, List.set_cons_zero, List.set_cons_succ])
      (refine wpAnyH_take (i := 9) (v := ?_) rfl (by kernel_rfl) (by kernel_rfl) (by kernel_rfl) (fun _ _ _ h => h) (Or.inl ⟨by rfl, ?_⟩) hHeld ?_; rotate_left; (intro w hSw; obtain ⟨s1, s2, s3⟩ := hSw; (go_simp <;> with_reducible rfl)); simp only [List.getElem_toArray, List.getElem_cons_zero, List.getElem_cons_succ, Act.put, List.setIfInBounds_toArray, List.set_cons_zero, List.set_cons_succ])
      (refine wpAnyH_take (i := 10) (v := ?_) rfl (by kernel_rfl) (by kernel_rfl) (by kernel_rfl) (fun _ _ _ h => h) (Or.inl ⟨by rfl, ?_⟩) hHeld ?_; rotate_left; (intro w hSw; obtain ⟨s1, s2, s3⟩ := hSw; (go_simp <;> with_reducible rfl)); simp only [List.getElem_toArray, List.getElem_cons_zero, List.getElem_cons_succ, Act.put, List.setIfInBounds_toArray, List.set_cons_zero, List.set_cons_succ])
      (refine wpAnyH_take (i := 11) (v := ?_) rfl (by kernel_rfl) (by kernel_rfl) (by kernel_rfl) (fun _ _ _ h => h) (Or.inl ⟨by rfl, ?_⟩) hHeld ?_; rotate_left; (intro w hSw; obtain ⟨s1, s2, s3⟩ := hSw; (go_simp <;> with_reducible rfl)); simp only [List.getElem_toArray, List.getElem_cons_zero, List.getElem_cons_succ, Act.put, List.setIfInBounds_toArray, List.set_cons_zero, List.set_cons_succ])
      (refine wpAnyH_take (i := 12) (v := ?_) rfl (by kernel_rfl) (by kernel_rfl) (by kernel_rfl) (fun _ _ _ h => h) (Or.inl ⟨by rfl, ?_⟩) hHeld ?_; rotate_left; (intro w hSw; obtain ⟨s1, s2, s3⟩ := hSw; (go_simp <;> with_reducible rfl)); simp only [List.getElem_toArray, List.getElem_cons_zero, List.getElem_cons_succ, Act.put, List.setIfInBounds_toArray, List.set_cons_zero, List.set_cons_succ])
      (refine wpAnyH_take (i := 13) (v := ?_) rfl (by kernel_rfl) (by kernel_rfl) (by kernel_rfl) (fun _ _ _ h => h) (Or.inl ⟨by rfl, ?_⟩) hHeld ?_; rotate_left; (intro w hSw; obtain ⟨s1, s2, s3⟩ := hSw; (go_simp <;> with_reducible rfl)); simp only [List.getElem_toArray, List.getElem_cons_zero, List.getElem_cons_succ, Act.put, List.setIfInBounds_toArray, List.set_cons_zero, List.set_cons_succ])
      (refine wpAnyH_take (i := 14) (v := ?_) rfl (by kernel_rfl) (by kernel_rfl) (by kernel_rfl) (fun _ _ _ h => h) (Or.inl ⟨by rfl, ?_⟩) hHeld ?_; rotate_left; (intro w hSw; obtain ⟨s1, s2, s3⟩ := hSw; (go_simp <;> with_reducible rfl)); simp only [List.getElem_toArray, List.getElem_cons_zero, List.getElem_cons_succ, Act.put, List.setIfInBounds_toArray, List.set_cons_zero, List.set_cons_succ])
      (refine wpAnyH_take (i := 15) (v := ?_) rfl (by kernel_rfl) (by kernel_rfl) (by kernel_rfl) (fun _ _ _ h => h) (Or.inl ⟨by rfl, ?_⟩) hHeld ?_; rotate_left; (intro w hSw; obtain ⟨s1, s2, s3⟩ := hSw; (go_simp <;> with_reducible rfl)); simp only [List.getElem_toArray, List.getElem_cons_zero, List.getElem_cons_succ, Act.put, List.setIfInBounds_toArray, List.set_cons_zero, List.set_cons_succ])
      refine wpAnyH_done (by kernel_rfl) ?_ _
      refine NoPanic.normal ?_
      obtain ⟨d1, d2, d3⟩ := hHeld
      clear c1 c2 c3 w1 w2 w3 hUl hXw q1 u1 u2
      have HLd : Hid (LK w g c ys wr.drew) := ⟨HLK.out.o, drewB HLK.out.l⟩
      go_wp2_with fail
      refine (HNw.out _).mono ?_
      rintro e' w1 ⟨rfl, hb1⟩
      have HL1 := hid (HLd.out.later hb1)
      clear hb1 HNw HLd HLK d1 d2 d3 hn0
      have hX0 : 0 ≤ (L : Int) + PI ∧ (L : Int) + PI ≤ 33554432 := by omega
      have Hc2 : Hid ((L : Int) + PI = ((L + P : Nat) : Int)) := by show _ = _; have := Hna.out; omega
      generalize (L : Int) + PI = X at *
      obtain ⟨hX1, hX2⟩ := hX0
      go_upto_if 36 with fail
      go_cut [3, 4] from 36 to 40 (fun o l wc => ∃ (g c : Nat) (ys : List Int), o = .slice (some ⟨g, 0, none⟩) ys.length c ∧ l = .int .i64 (((e.n + P) % 16777216 : Nat) : Int) ∧ Hid (ys = digs e.k ((e.n + P) / 16777216)) ∧ Hid (LK w g c ys wc))
      case first =>
        by_cases hc' : 16777216 ≤ X
        · have hc : 16777216 ≤ L + P := by have := Hc2.out; omega
          obtain ⟨m1, m2⟩ := Hmp.out.2 hc hP
          have hk2 := Hcar.out hc
          have hsl := HL1.out.o.sl
          rw [hye.out] at hsl
          have HC := hid (l3Carry_calls _ e.k (e.n / 16777216) w1 hsl hk2 (by omega))
          rw [← hye.out] at HC
          have M1 := hid m1
          have M2 : Hid ((((e.n + P) % 16777216 : Nat) : Int) = X - 16777216) := by show _ = _; have := Hc2.out; omega
          clear m1 m2 hk2 hsl hc hP hN hL hn64 r1 hUP
          go_wp2_with fail
          refine HC.out.mono ?_
          rintro e' w2 ⟨g2, c2, rfl, ho2, hb2⟩
          have HL2 : Hid (LK w g2 c2 (digs e.k ((e.n + P) / 16777216)) w2) := by
            refine ⟨?_, HL1.out.l.trans (hb2.mono HL1.out.l.size)⟩
            rw [digs_len, M1.out]
            exact ho2.mono HL1.out.l.size
          have e1 : Hid (Value.slice (some ⟨g2, 0, none⟩) e.k c2 = .slice (some ⟨g2, 0, none⟩) (digs e.k ((e.n + P) / 16777216)).length c2) := by show _ = _; rw [digs_len]
          clear ho2 hb2 HC
          go_wp2_with fail
          go_meet
          case rel => exact ⟨g2, c2, _, e1.out, (by rw [M2.out]), rfl, HL2.out⟩
        · have hc : L + P < 16777216 := by have := Hc2.out; omega
          replace hc' : X < 16777216 := by omega
          obtain ⟨m1, m2⟩ := Hmp.out.1 hc
          have M1 := hid m1
          have M2 : Hid ((((e.n + P) % 16777216 : Nat) : Int) = X) := by show _ = _; have := Hc2.out; omega
          clear m1 m2 hc hP hN hL hn64 r1 hUP
          go_wp2_with fail
          go_meet
          case rel => exact ⟨g, c, ys, rfl, (by rw [M2.out]), (by rw [M1.out]; exact hye.out), HL1.out⟩
      case rest =>
        obtain ⟨g3, c3, zs, rfl, rfl, hzs, hL3⟩ := hcut
        have Hn64 := hid hn64
        have HN := hid hN
        have Hkb := hid hek
        clear HL1 hye Hcar Hmp Hna Hc2 hX1 hX2 hUP hP hL hn64 hN r1 hek HLn
        go_wp2_with fail
        go_loopw [3, 4, 5] (fun o l r wq => ∃ (t g c : Nat) (zs : List Int), o = .slice (some ⟨g, 0, none⟩) zs.length c ∧ l = .int .i64 (((e.n + P) * 256 ^ t % 16777216 : Nat) : Int) ∧ r = .int .i64 ((N * 256 ^ t : Nat) : Int) ∧ Hid (t ≤ sh N) ∧ Hid (zs = digs (e.k + t) ((e.n + P) * 256 ^ t / 16777216)) ∧ Hid (LK w g c zs wq)) (fun _ _ r _ => 16777217 - (intOf r).toNat)
        case atStart => exact ⟨0, g3, c3, zs, rfl, (by rw [Nat.pow_zero, Nat.mul_one]), (by rw [Nat.pow_zero, Nat.mul_one]), Nat.zero_le _, (by show zs = _; rw [Nat.pow_zero, Nat.mul_one, Nat.add_zero]; exact hzs.out), hL3.out⟩
        case round =>
          clear hzs hL3
          obtain ⟨t, g4, c4, qs, rfl, rfl, rfl, hts, hqs, hL4⟩ := hrel
          have hf := sh_facts N t Hn64.out HN.out hts.out
          have hql : qs.length ≤ 520 := by rw [hqs.out, digs_len]; have := Hkb.out; omega
          by_cases hlt2 : t < sh N
          · have hr1 := hf.1.1 hlt2
            have hr2 := hf.2.1
            have so := shift_out (e.k + t) ((e.n + P) * 256 ^ t)
            rw [← hqs.out] at so
            have hlow : (e.n + P) * 256 ^ t % 16777216 < 16777216 := Nat.mod_lt _ (by decide)
            have ep : Hid ((e.n + P) * 256 ^ (t + 1) = (e.n + P) * 256 ^ t * 256 ∧ N * 256 ^ (t + 1) = N * 256 ^ t * 256) := by
              show _ ∧ _
              rw [Nat.pow_succ, Nat.mul_assoc, Nat.mul_assoc]; exact ⟨rfl, rfl⟩
            have Hlt := hid hlt2
            clear hf hlt2 hqs
            generalize (e.n + P) * 256 ^ t = M at *
            generalize N * 256 ^ t = R at *
            obtain ⟨so1, so2⟩ := so
            have Hso1 := hid so1
            have Hso2 := hid so2
            generalize M % 16777216 = D at *
            have k1 : (D : Int).tdiv 65536 = (D : Int) / 65536 := Int.tdiv_eq_ediv_of_nonneg (by omega)
            have k2 : (D : Int).tmod 65536 = (D : Int) % 65536 := Int.tmod_eq_emod_of_nonneg (by omega)
            have k3 : 0 ≤ (D : Int) / 65536 ∧ (D : Int) / 65536 < 256 := by omega
            have k4 : 0 ≤ (D : Int) % 65536 ∧ (D : Int) % 65536 < 65536 := by omega
            have k5 : (D : Int) / 65536 % 256 = (D : Int) / 65536 := by omega
            have Hx : Hid (((D / 65536 : Nat) : Int) = (D : Int) / 65536) := by show _ = _; omega
            have Hy : Hid (((D % 65536 * 256 : Nat) : Int) = (D : Int) % 65536 * 256) := by show _ = _; omega
            have Hr2 : Hid (((R * 256 : Nat) : Int) = (R : Int) * 256) := by show _ = _; omega
            have hw1 : (R : Int) < 65536 := by omega
            have hw2 : 1 ≤ (R : Int) := by omega
            clear so1 so2 hlow hr1 hr2
            generalize (D : Int) / 65536 = p at *
            generalize (D : Int) % 65536 = q at *
            generalize hRI : (R : Int) = RI at *
            have HRI := hid hRI
            clear hRI
            obtain ⟨k31, k32⟩ := k3
            obtain ⟨k41, k42⟩ := k4
            have hsz := hL4.out.l.size
            go_wp2_with (at_builtin; refine wpList_append_sl _ rfl _ _ 22 rfl w.heap.size 5 i0 .u8 0 1 Tryd.underlying22 hi hz0 hz1 hz2 (by decide) g4 qs.length c4 qs rfl rfl (hL4.out.o.alloc _) _ [p] rfl (sl_lit _ _ _ _ _ _ rfl rfl) ?c1 ?c2 ?_)
            case c1 => simp; omega
            case c2 => simp; omega
            intro g5 c5 w5 ho5 hg5 _
            have HL5 := hid (hL4.out.appended (n := 1) rfl ho5 hg5)
            clear ho5 hg5
            go_wp2
            go_roundw
            case rel => exact ⟨t + 1, g5, c5, qs ++ [p], (by rw [List.length_append]; rfl), (by rw [ep.out.1, Hso2.out, Hy.out]), (by rw [ep.out.2, Hr2.out]), Hlt.out, (by show _ = _; rw [ep.out.1, ← Nat.add_assoc, Hso1.out, Hx.out]), HL5.out⟩
            case measure => simp [intOf]; omega
          · have htN : t = sh N := by have := hts.out; omega
            subst htN
            have hr1 : 65536 ≤ ((N * 256 ^ sh N : Nat) : Int) := by have : ¬ N * 256 ^ sh N < 65536 := fun h => hlt2 (hf.1.2 h); omega
            clear hf hlt2
            generalize hM : (e.n + P) * 256 ^ sh N = M at *
            have HM := hid hM
            generalize hRI : ((N * 256 ^ sh N : Nat) : Int) = RI at *
            have HRI := hid hRI
            have hr2 : decide (RI < 65536) = false := decide_eq_false (by omega)
            clear hM hRI
            go_wp2
            go_roundw
            case rel => exact ⟨k + 1, g4, c4, qs, ⟨e.k + sh N, M, lift N⟩, rfl, rfl, (by show _ = Value.int .i64 ((N * 256 ^ sh N : Nat) : Int); rw [HRI.out]), by go_num, by omega, ⟨by rw [Hstep.out], hqs.out⟩, hL4.out⟩
            case measure => simp [intOf]; omega
    · obtain rfl : k = ls.length := by omega
      have hl3 := last_three e.k e.n _ rfl
      rw [← he.out.2] at hl3
      have Hl3 := hid hl3
      have hL : e.n % 16777216 < 16777216 := Nat.mod_lt _ (by decide)
      have HE : Hid (encL (sns ls) = trim (digs (e.k + 3) e.n)) := by
        show _ = _
        have h1 := he.out.1
        rw [List.take_length] at h1
        rw [h1]
        rfl
      clear hl3 heok hek Hok Hs
      have hD0 : 0 ≤ ((e.n % 16777216 : Nat) : Int) ∧ ((e.n % 16777216 : Nat) : Int) < 16777216 := by omega
      clear hL
      generalize ((e.n % 16777216 : Nat) : Int) = D at *
      obtain ⟨hD1, hD2⟩ := hD0
      have k1 : D.tdiv 65536 = D / 65536 := Int.tdiv_eq_ediv_of_nonneg hD1
      have k2 : D.tdiv 256 = D / 256 := Int.tdiv_eq_ediv_of_nonneg hD1
      have k3 : (D / 256).tmod 256 = D / 256 % 256 := Int.tmod_eq_emod_of_nonneg (by omega)
      have k4 : D.tmod 256 = D % 256 := Int.tmod_eq_emod_of_nonneg hD1
      have b1 : 0 ≤ D / 65536 ∧ D / 65536 < 256 ∧ D / 65536 % 256 = D / 65536 := by omega
      have b2 : 0 ≤ D / 256 ∧ D / 256 < 16777216 := by omega
      have b3 : 0 ≤ D / 256 % 256 ∧ D / 256 % 256 < 256 ∧ D / 256 % 256 % 256 = D / 256 % 256 := by omega
      have b4 : 0 ≤ D % 256 ∧ D % 256 < 256 ∧ D % 256 % 256 = D % 256 := by omega
      generalize D / 256 % 256 = p1 at *
      generalize D / 65536 = p0 at *
      generalize D / 256 = d1 at *
      generalize D % 256 = p2 at *
      obtain ⟨b11, b12, b13⟩ := b1
      obtain ⟨b21, b22⟩ := b2
      obtain ⟨b31, b32, b33⟩ := b3
      obtain ⟨b41, b42, b43⟩ := b4
      have hsz := hk.out.l.size
      go_wp2_with (at_builtin; refine wpList_append_sl _ rfl _ _ 22 rfl w.heap.size 5 i0 .u8 0 1 Tryd.underlying22 hi hz0 hz1 hz2 (by decide) g ys.length c ys rfl rfl (hk.out.o.alloc _) _ [p0, p1, p2] rfl (sl_lit _ _ _ _ _ _ rfl rfl) ?c1 ?c2 ?_)
      case c1 => simp; omega
      case c2 => simp; omega
      intro g5 c5 w5 ho5 hg5 _
      have HL5 := hid (hk.out.appended (n := 3) rfl ho5 hg5)
      have hF : Hid ((ys ++ [p0, p1, p2]).length = ys.length + 3) := by show _ = _; rw [List.length_append]; rfl
      rw [← Hl3.out] at HL5 hF
      clear ho5 hg5 hk he Hl3 k1 k2 k3 k4 b11 b12 b13 b21 b22 b31 b32 b33 b41 b42 b43
      obtain ⟨hc1, hc2⟩ := ow_cap HL5.out.o rfl
      rw [hF.out] at hc1
      go_wp2_with fail
      go_loopw [3] (fun o wq => ∃ m : Nat, m ≤ ys.length + 3 ∧ o = .slice (some ⟨g5, 0, none⟩) m c5 ∧ Hid (trim ((digs (e.k + 3) e.n).take m) = trim (digs (e.k + 3) e.n)) ∧ wq = w5) (fun o _ => slen o)
      case atStart => exact ⟨ys.length + 3, Nat.le_refl _, rfl, (by show _ = _; rw [← hF.out, List.take_length]), rfl⟩
      case round =>
        obtain ⟨m, hm, rfl, Htr, rfl⟩ := hrel
        cases m with
        | zero =>
          have E1 : Hid ((trim (digs (e.k + 3) e.n)).length = 0) := by show _ = _; rw [← Htr.out]; simp [trim]
          go_wp2
          go_ret
          refine ⟨g5, c5, by rw [HE.out, E1.out]; rfl, ?_, HL5.out.l⟩
          rw [HE.out]
          have h1 := ow_take (m := (trim (digs (e.k + 3) e.n)).length) HL5.out.o rfl (trim_len _)
          rwa [← trim_take] at h1
        | succ m =>
          obtain ⟨hcell, _⟩ := HL5.out.o.cellAt rfl m (by rw [hF.out]; omega)
          have hmk : m < (digs (e.k + 3) e.n).length := by rw [hF.out]; omega
          have hi : ((m + 1 : Nat) : Int) - 1 = (m : Int) := by omega
          by_cases h0 : (digs (e.k + 3) e.n).getD m 0 = 0
          · have Hc := hid (trim_cut _ m hmk h0)
            rw [h0] at hcell
            clear h0 hmk
            go_wp2
            go_roundw
            case rel => exact ⟨m, by omega, by first | rfl | simp, by rw [← Hc.out]; exact Htr.out, trivial⟩
            case measure => simp [slen]
          · have Hc := hid (trim_stop _ m hmk h0)
            have E1 : Hid ((trim (digs (e.k + 3) e.n)).length = m + 1) := by show _ = _; rw [← Htr.out, Hc.out, List.length_take]; omega
            have h1 : ((digs (e.k + 3) e.n).getD m 0 == 0) = false := by simpa using h0
            clear h0 hmk
            generalize (digs (e.k + 3) e.n).getD m 0 = x at *
            go_wp2
            go_ret
            refine ⟨g5, c5, by rw [HE.out, E1.out]; rfl, ?_, HL5.out.l⟩
            rw [HE.out]
            have h1 := ow_take (m := (trim (digs (e.k + 3) e.n)).length) HL5.out.o rfl (trim_len _)
            rwa [← trim_take] at h1
theorem eC_cases (ls : List Sl3) : eC ls ≠ 0 ∧ eL ls = [] ∨ eC ls = 0 ∧ eL ls = encL (sns ls) ∧ ls.length ≤ 400 ∧ ∀ j, j < ls.length → sG (ls.getD j (0, 0, 0)) = 0 := by
  by_cases h : eC ls = 0
  · refine .inr ⟨h, by unfold eL; rw [if_pos h], ?_⟩
    unfold eC at h
    split at h
    · cases h
    · exact ⟨by omega, fF_all h⟩
  · exact .inl ⟨h, by unfold eL; rw [if_neg h]⟩
end Go.Proofs.YthecfboplfmdmaaDoor.EncS
