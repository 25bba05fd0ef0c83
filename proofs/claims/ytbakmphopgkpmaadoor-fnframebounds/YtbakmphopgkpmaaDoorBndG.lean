/- The model's gathering of bounds. Conditions: 1, 2, 4, 8 or 16 bounds, none below 0, not too great. -/
import Derived.Test.YtbakmphopgkpmaaDoorBndS
import Derived.Test.YtbakmphopgkpmaaDoorGg
namespace Go.Proofs.YtbakmphopgkpmaaDoor.BndG
open Go.ChangeShapes Go.WideShapes Go.ChangeAt Go.RowKit Go.Proofs.YtbakmphopgkpmaaDoor.Num Go.Proofs.YtbakmphopgkpmaaDoor.Sli Go.Proofs.YtbakmphopgkpmaaDoor.App Go.Proofs.YtbakmphopgkpmaaDoor.Div Go.Proofs.YtbakmphopgkpmaaDoor.TurM Go.Proofs.YtbakmphopgkpmaaDoor.HalM Go.Proofs.YtbakmphopgkpmaaDoor.IntL Go.Proofs.YtbakmphopgkpmaaDoor.IntA Go.Proofs.YtbakmphopgkpmaaDoor.HalS Go.Proofs.YtbakmphopgkpmaaDoor.UniS Go.Proofs.YtbakmphopgkpmaaDoor.GatS Go.Proofs.YtbakmphopgkpmaaDoor.BndM Go.Proofs.YtbakmphopgkpmaaDoor.BndS

/-- Numbers from 0 to M. -/
def nlim (M : Int) (l : List Int) : Prop := ∀ i, 0 ≤ l.getD i 0 ∧ l.getD i 0 ≤ M
theorem nlim.pos {M : Int} {l : List Int} (h : nlim M l) : 0 ≤ M := by have := h 0; omega
theorem nlim.mono {M N : Int} {l : List Int} (h : nlim M l) (hMN : M ≤ N) : nlim N l := fun i => by have := h i; omega
theorem nlim.lim {M : Int} {l : List Int} (h : nlim M l) : lim M l := fun i => by have := h i; omega
theorem nlim_mkL {M : Int} {m : Nat} {f : Nat → Int} (h0 : 0 ≤ M) (h : ∀ i, i < m → 0 ≤ f i ∧ f i ≤ M) : nlim M (mkL m f) := by
  intro i
  by_cases hi : i < m
  · rw [mkL_get _ hi]; exact h i hi
  · rw [mkL_far _ (by omega)]; omega
theorem nlim_ev {M : Int} {c : List Int} (h : nlim M c) : nlim M (ev c) := nlim_mkL h.pos (fun _ _ => h _)
theorem nlim_od {M : Int} {c : List Int} (h : nlim M c) : nlim M (od c) := nlim_mkL h.pos (fun _ _ => h _)
theorem tb_small {p u a b M : Int} (hp : 1 ≤ p ∧ p ≤ 178 ∧ 1 ≤ u ∧ u ≤ 345) (ha : 0 ≤ a ∧ a ≤ M) (hb : 0 ≤ b ∧ b ≤ M) :
    (0 ≤ tbA p u a b ∧ tbA p u a b ≤ 2 * M + 4) ∧ (0 ≤ tbB p u a b ∧ tbB p u a b ≤ 2 * M + 4) := by
  unfold tbA tbB
  obtain ⟨-, t1, t1'⟩ := sh_bd (by omega : 0 ≤ p) hp.2.1 hb.1 hb.2
  generalize shV p b = x at *
  obtain ⟨-, t2, t2'⟩ := sh_bd (p := u) (e := a + x) (P := 345) (E := M + (178 * M / 1024 + 1)) (by omega) hp.2.2.2 (by omega) (by omega)
  generalize shV u (a + x) = y at *
  obtain ⟨-, t3, t3'⟩ := sh_bd (p := p) (e := b + y) (P := 178) (E := M + (345 * (M + (178 * M / 1024 + 1)) / 1024 + 1)) (by omega) hp.2.1 (by omega) (by omega)
  generalize shV p (b + y) = z at *
  omega
theorem nlim_prL {n : Nat} {M : Int} (hn : sz4 n) {d : List Int} (h : nlim M d) : nlim (2 * M + 4) (prL (tbF n) n d) := by
  have h0 := h.pos
  refine nlim_mkL (by omega) (fun j hj => ?_)
  unfold prE
  split
  · have := h j; omega
  · rename_i h2
    split
    · rename_i hq
      exact (tb_small (row_small hn (by omega) hq).2 (h _) (h _)).1
    · rename_i hq
      have : n / 2 - 1 - j < n / 4 := by rcases hn with rfl | rfl | rfl | rfl <;> omega
      exact (tb_small (row_small hn (by omega) this).2 (h _) (h _)).2
theorem nlim_ub {M : Int} {s d : List Int} (hn : sz4 (2 * s.length)) (hs : nlim M s) (hd : nlim M d) : nlim (2 * M + 3) (ub s d) := by
  have hp := nlim_prL hn hd
  have h0 := hs.pos
  refine nlim_mkL (by omega) (fun j _ => ?_)
  unfold ubE ceilV
  split
  · have := hs j; have := hp j; omega
  · have := hs (2 * s.length - 1 - j); have := hp (2 * s.length - 1 - j); omega
theorem nlim_gaB : ∀ (k : Nat) {M : Int} {c : List Int}, k ≤ 4 → c.length = 2 ^ k → nlim M c → nlim (bG k M) (gaB k c)
  | 0, _, _, _, _, h => h
  | k + 1, M, c, hk, hl, h => by
    have h1 : (ev c).length = 2 ^ k := by rw [ev_len, hl, Nat.pow_succ]; omega
    have h2 : (od c).length = 2 ^ k := by rw [od_len, hl, Nat.pow_succ]; omega
    exact nlim_ub (by rw [gaB_len k _ h1, show 2 * 2 ^ k = 2 ^ (k + 1) by rw [Nat.pow_succ]; omega]; exact sz4_pow hk) (nlim_gaB k (by omega) h1 (nlim_ev h)) (nlim_gaB k (by omega) h2 (nlim_od h))
theorem ubE_lo {n j : Nat} {s e : List Int} (h : j < n / 2) : ubE n s e j = s.getD j 0 + ceilV (e.getD j 0) 2 := if_pos h
theorem ubE_hi {n j : Nat} {s e : List Int} (h : j < n / 2) : ubE n s e (n - 1 - j) = s.getD j 0 + ceilV (e.getD j 0) 2 := by
  unfold ubE; rw [if_neg (by omega), show n - 1 - (n - 1 - j) = j by omega]
/-- Two lists of m numbers and one of n. -/
structure VO (w : World) (m gs cs gd cd n go : Nat) (S E O : List Int) (W : World) : Prop where
  k : HK w m gs cs gd cd S E W
  n1 : gs ≠ go
  n2 : gd ≠ go
  o : OwI w.heap.size W (.slice (some ⟨go, 0, none⟩) n n) O
theorem VO.drew {w : World} {m gs cs gd cd n go : Nat} {S E O : List Int} {W : World} (h : VO w m gs cs gd cd n go S E O W) : VO w m gs cs gd cd n go S E O W.drew := ⟨h.k.drew, h.n1, h.n2, h.o⟩
set_option maxRecDepth 100000 in
set_option maxHeartbeats 4000000 in
theorem l8Gather_calls : ∀ (k : Nat) (v : Value) (c : List Int) (M : Int) (w : World), k ≤ 4 → Sl .i64 w v c → c.length = 2 ^ k → nlim M c → bG k M ≤ 34359738368 →
    Calls Tryd.prog 69 #[v] w fun e w' => ∃ g cap, e = .returned (.slice (some ⟨g, 0, none⟩) (2 ^ k : Nat) cap) ∧ OwI w.heap.size w' (.slice (some ⟨g, 0, none⟩) (2 ^ k) cap) (gaB k c) ∧ Below w.heap.size w w' := by
  intro k
  induction k with
  | zero =>
    intro v l M w _ h hl _ _
    have HI := hid (ints_calls v l w h (by omega))
    obtain ⟨a, cap, rfl, _⟩ := h
    have h1 : l.length = 1 := hl
    rw [h1] at HI
    rw [h1]
    clear hl h1
    go_enter Tryd.func69, Tryd.ntmps69
    go_wp2_with fail
    refine HI.out.mono ?_
    rintro e w1 ⟨g, cp, rfl, ho, hb⟩
    have HO := hid ho
    have HB := hid hb
    clear ho hb HI
    go_wp2
    go_ret
    exact ⟨g, cp, rfl, HO.out, HB.out⟩
  | succ k ih =>
    intro v c M w hk h hl hM hB
    have h0 := hM.pos
    have hsz : sz4 (2 * 2 ^ k) := by rw [show 2 * 2 ^ k = 2 ^ (k + 1) by rw [Nat.pow_succ]; omega]; exact sz4_pow hk
    have h2k : 2 ^ (k + 1) = 2 * 2 ^ k := by rw [Nat.pow_succ]; omega
    have hl2 : c.length / 2 = 2 ^ k := by rw [hl, h2k]; omega
    have hGk : bG k M ≤ 34359738368 := by
      have h1 : bG (k + 1) M = 2 * bG k M + 3 := rfl
      have := le_bG k h0
      omega
    have hl1 : (ev c).length = 2 ^ k := by rw [ev_len, hl2]
    have hl3 : (od c).length = 2 ^ k := by rw [od_len, hl2]
    have HIE := hid (fun W v' (hv : Sl .i64 W v' (ev c)) => ih v' (ev c) M W (by omega) hv hl1 (nlim_ev hM) hGk)
    have HIO := hid (fun W v' (hv : Sl .i64 W v' (od c)) => ih v' (od c) M W (by omega) hv hl3 (nlim_od hM) hGk)
    have HlA := hid (gaB_len k (ev c) hl1)
    have HlB := hid (gaB_len k (od c) hl3)
    have HLA := hid (nlim_gaB k (by omega) hl1 (nlim_ev hM))
    have HLB := hid (nlim_gaB k (by omega) hl3 (nlim_od hM))
    have HE : Hid (gaB (k + 1) c = ub (gaB k (ev c)) (gaB k (od c))) := rfl
    have EE : Hid (ev c = mkL (2 ^ k) (evE c)) := by show mkL _ _ = _; rw [hl2]; rfl
    have EO : Hid (od c = mkL (2 ^ k) (odE c)) := by show mkL _ _ = _; rw [hl2]; rfl
    have hne : c ≠ [] := by intro e; rw [e, h2k] at hl; have := Nat.one_le_two_pow (n := k); simp at hl; omega
    rw [h2k]
    rw [h2k] at hl
    have h00 := hid (HK.new w)
    obtain ⟨a, cap, rfl, hc⟩ := h
    obtain ⟨b, off, rfl, hbl, hcell⟩ := hc hne
    have HC := hid hcell
    rw [hl] at HC ⊢
    have h16 : 2 ^ k ≤ 8 ∧ 1 ≤ 2 ^ k := by
      rcases k with _ | _ | _ | _ | k
      · decide
      · decide
      · decide
      · decide
      · omega
    clear ih hM hB hl hl2 h2k hl1 hl3 hc hcell hne
    have HLAb := hid HLA.out
    have HLBb := hid HLB.out
    have Hsz := hid hsz
    have HGb := hid hGk
    clear hsz hGk HLA HLB h0
    generalize hRR : gaB (k + 1) c = R at *
    generalize gaB k (ev c) = A at *
    generalize gaB k (od c) = B at *
    generalize bG k M = MM at *
    clear hRR
    generalize 2 ^ k = m at *
    obtain ⟨m8, m1⟩ := h16
    have hn1 : ((2 * m : Nat) : Int) ≠ 1 := by omega
    generalize h2m : 2 * m = n at *
    have H2m := hid h2m
    have hn16 : n ≤ 16 := by omega
    clear h2m
    have hnb : ((n : Int) == 1) = false := by simpa using hn1
    go_enter Tryd.func69, Tryd.ntmps69
    go_wp2_with fail
    go_loopw [4, 5, 6] (fun s d i wq => ∃ j p gs cs gd cd : Nat, i = .int .i64 (p : Int) ∧ Hid (p = 2 * j) ∧ s = .slice (some ⟨gs, 0, none⟩) j cs ∧ d = .slice (some ⟨gd, 0, none⟩) j cd ∧ j ≤ m ∧ Hid (HK w j gs cs gd cd (mkL j (evE c)) (mkL j (odE c)) wq)) (fun _ _ i _ => 20 - (intOf i).toNat)
    case atStart => exact ⟨0, 0, _, _, _, _, rfl, rfl, rfl, rfl, Nat.zero_le _, h00.out⟩
    case round =>
      obtain ⟨j, p, gs, cs, gd, cd, rfl, Hp, rfl, rfl, hj, hK⟩ := hrel
      clear h00
      have h2m := H2m.out
      have hp := Hp.out
      by_cases hlt : j < m
      · have hpn : (p : Int) + 1 < (n : Int) := by omega
        have hpn' : p + 1 < n := by omega
        have c1 := (hK.out.b.cell (p := ⟨b, off + p, none⟩) hbl).trans (HC.out p (by omega))
        have c2 := (hK.out.b.cell (p := ⟨b, off + (p + 1), none⟩) hbl).trans (HC.out (p + 1) (by omega))
        have ES1 := hid (mkL_succ j (evE c))
        have ED1 := hid (mkL_succ j (odE c))
        have e1 : c.getD p 0 = evE c j := by unfold evE; rw [hp]
        have e2 : c.getD (p + 1) 0 = odE c j := by unfold odE; rw [hp]
        rw [e1] at c1
        rw [e2] at c2
        have hbs := blk_of hK.out.s
        have hbd := blk_of hK.out.d
        have hne := hK.out.ne
        have hsw := hK.out.b.size
        have Hyl : Hid ((mkL j (evE c)).length = j ∧ (mkL j (odE c)).length = j) := ⟨mkL_len _ _, mkL_len _ _⟩
        clear hp h2m e1 e2
        generalize evE c j = xs at *
        generalize odE c j = xd at *
        have HO1 := hid (hK.out.s.alloc (.cells #[.int .i64 xs] 2))
        have HQ1 := hid (hK.out.d.alloc (.cells #[.int .i64 xs] 2))
        have HL1 := hid (bmore hK.out.b (.cells #[.int .i64 xs] 2))
        clear hK
        go_wp2_with (at_builtin; refine wpList_append_ints _ rfl _ _ rfl w.heap.size _ (mkL j (evE c)) rfl HO1.out _ [xs] rfl (sl_lit _ _ _ _ _ _ rfl rfl) (by simp) ?c1 ?c2 ?_)
        case c1 => rw [Hyl.out.1]; simp only [List.length_singleton]; omega
        case c2 => simp; omega
        intro g5 cap5 n5 w5 hn5 ho5 hg5 hat5
        have Hn5 : Hid (n5 = j + 1) := by show _ = _; have := Hyl.out.1; first | omega | (simp only [List.length_append, List.length_singleton] at hn5; omega)
        have hne5 : g5 ≠ gd := by
          rcases hat5 with h | h
          · have : gs = g5 := by simpa [Value.ownBlock] using h
            omega
          · omega
        have HD5 := hid (Ow.keptNe HQ1.out hg5 (fun j e => by simp [Value.ownBlock] at e ⊢; omega))
        have hL5 := HL1.out.trans (below_of_grown hg5 (by simp; omega) (fun i e => (HO1.out.block i e).1))
        have HL5 := hid hL5
        have HS5 := hid ho5
        have hs5 : wr.heap.size + 1 ≤ w5.heap.size := by have := hg5.size; simpa using this
        have hb5 := blk_of HS5.out
        have c3 : w5.cell? ⟨b, off + (p + 1), none⟩ = some (.int .i64 xd) := by
          have h1 := (HL1.out.cell (p := ⟨b, off + (p + 1), none⟩) hbl)
          have h2 := (hL5.cell (p := ⟨b, off + (p + 1), none⟩) hbl)
          have h3 : (wr.alloc (.cells #[.int .i64 xs] 2)).cell? ⟨b, off + (p + 1), none⟩ = wr.cell? ⟨b, off + (p + 1), none⟩ := ((Below.refl wr.heap.size wr).alloc (Nat.le_refl _) _).cell (p := ⟨b, off + (p + 1), none⟩) (show b < wr.heap.size by omega)
          rw [h2, ← h1, h3, c2]
        clear hn5 ho5 hg5 hat5 HO1 HQ1 HL1 hL5 c1 c2
        have HO6 := hid (HD5.out.alloc (.cells #[.int .i64 xd] 2))
        have HQ6 := hid (HS5.out.alloc (.cells #[.int .i64 xd] 2))
        have HL6 := hid (bmore HL5.out (.cells #[.int .i64 xd] 2))
        clear HD5 HS5 HL5
        go_wp2_with (at_builtin; refine wpList_append_ints _ rfl _ _ rfl w.heap.size _ (mkL j (odE c)) rfl HO6.out _ [xd] rfl (sl_lit _ _ _ _ _ _ rfl rfl) (by simp) ?c1 ?c2 ?_)
        case c1 => rw [Hyl.out.2]; simp only [List.length_singleton]; omega
        case c2 => simp; omega
        intro g7 cap7 n7 w7 hn7 ho7 hg7 hat7
        have Hn7 : Hid (n7 = j + 1) := by show _ = _; have := Hyl.out.2; first | omega | (simp only [List.length_append, List.length_singleton] at hn7; omega)
        have hne7 : g5 ≠ g7 := by
          rcases hat7 with h | h
          · have : gd = g7 := by simpa [Value.ownBlock] using h
            omega
          · omega
        have HK7 : Hid (HK w (j + 1) g5 cap5 g7 cap7 (mkL (j + 1) (evE c)) (mkL (j + 1) (odE c)) w7) := by
          have hS7 := Ow.keptNe HQ6.out hg7 (fun j e => by simp [Value.ownBlock] at e ⊢; omega)
          have hL7 := HL6.out.trans (below_of_grown hg7 (by simp; omega) (fun i e => (HO6.out.block i e).1))
          rw [Hn5.out] at hS7
          rw [Hn7.out] at ho7
          refine ⟨hne7, ?_, ?_, hL7⟩
          · rw [ES1.out]; exact hS7
          · rw [ED1.out]; exact ho7
        have e5 := Hn5.out
        have e7 := Hn7.out
        subst e5 e7
        clear hn7 ho7 hg7 hat7 HO6 HQ6 HL6 Hn5 Hn7
        go_wp2
        go_roundw
        case rel => exact ⟨j + 1, p + 2, g5, cap5, g7, cap7, by go_num, by have := Hp.out; show _ = _; omega, rfl, rfl, by omega, HK7.out⟩
        case measure => simp [intOf]; omega
      · obtain rfl : j = m := by omega
        rw [← EE.out, ← EO.out] at hK
        have hnot : (n : Int) ≤ (p : Int) + 1 := by omega
        have hpb : (p : Int) ≤ 16 := by omega
        clear h2m hp
        go_wp2_with fail
        refine (HIE.out _ _ hK.out.s.sl).mono ?_
        rintro e w2 ⟨ga', ca, rfl, ho2, hb2⟩
        have HA2 := hid ho2
        have HL2 := hid (bthen hK.out.b hb2)
        have HD2 := hid (hK.out.d.later hb2)
        have hw1 := hK.out.b.size
        clear ho2 hb2 hK HIE
        go_wp2_with fail
        refine (HIO.out _ _ HD2.out.sl).mono ?_
        rintro e w3 ⟨gb', cb, rfl, ho3, hb3⟩
        have HA3 := hid (HA2.out.later hb3)
        have hab : ga' ≠ gb' := by have h1 := (HA2.out.block ga' rfl).2; have h2 := (ho3.block gb' rfl).1; omega
        have HK3 : Hid (HK w j ga' ca gb' cb A B w3) := ⟨hab, HA3.out.mono hw1, ho3.mono HL2.out.size, bthen HL2.out hb3⟩
        clear ho3 hb3 HA2 HL2 HD2 HIO HA3 hab
        have Hln : Hid (B.length = j) := HlB.out
        have Hs4 : Hid (sz4 n) := Hsz.out
        have Hm2 : Hid (n / 2 = j) := by show _ = _; have := H2m.out; omega
        have HRe : Hid (R = mkL n (ubE n A (prL (tbF n) n B))) := by show _ = _; rw [HE.out]; unfold ub; rw [HlA.out, H2m.out]
        have hmn : (j : Int) * 2 = (n : Int) := by have := H2m.out; omega
        have hm0 : ((n : Int)).tdiv 2 = (j : Int) := by rw [Int.tdiv_eq_ediv_of_nonneg (by omega)]; omega
        have hm8 : (j : Int) ≤ 8 ∧ 1 ≤ (j : Int) := by omega
        have HLe := hid (nlim_prL Hs4.out HLBb.out)
        have HgM := HGb.out
        have hEl : Hid ((prL (tbF n) n B).length = j) := by show _ = _; rw [prL_len]; exact Hm2.out
        clear HE HC EE EO Hp hnot hpb hnb hn1 HGb Hsz HlB
        generalize w3 = wx at *
        go_upto_if 49 with fail
        go_cut [] from 9 to 85 (fun wc => Hid (HK w j ga' ca gb' cb A (prL (tbF n) n B) wc))
        case first =>
          by_cases h2 : n = 2
          · have HE : Hid (prL (tbF n) n B = B) := prL_two _ (by omega) (by rw [Hm2.out, Hln.out])
            have h2I : (n : Int) = 2 := by omega
            clear HLe HRe hEl
            subst h2
            go_wp2_with fail
            go_meet
            case rel => (show HK _ _ _ _ _ _ _ _ _); rw [HE.out]; exact HK3.out
          · have h2I : (2 : Int) < (n : Int) := by omega
            have hr0 : ((n : Int)).tdiv 4 = ((n / 4 : Nat) : Int) := by rcases Hs4.out with e | e | e | e <;> rw [e] <;> rfl
            have hr1 : j = 2 * (n / 4) := by have := Hm2.out; rcases Hs4.out with e | e | e | e <;> omega
            have HRow := hid (fun i (hi : i < n / 4) => row_small Hs4.out (by omega) hi)
            have HP := hid (fun i (hi : i < n / 4) => And.intro (prE_lo (F := tbF n) (by omega) hi B) (prE_hi (F := tbF n) Hs4.out (by omega) hi B))
            rw [Hm2.out] at HP
            have HEnd : Hid (pS j (n / 4) (prE (tbF n) n B) (fun i => B.getD i 0) = prL (tbF n) n B) := by
              have := prL_state (F := tbF n) Hs4.out (by omega) B
              rw [Hm2.out] at this
              exact this
            have HZ0 : Hid (HK w j ga' ca gb' cb A (pS j 0 (prE (tbF n) n B) (fun i => B.getD i 0)) wx) := by
              rw [pS_zero, ← Hln.out, mkL_self, Hln.out]; exact HK3.out
            clear HK3 HLe HRe hEl
            generalize prE (tbF n) n B = vv at *
            generalize hoo : (fun i => B.getD i 0) = oo at *
            have HO : Hid (∀ i, oo i = B.getD i 0) := fun i => by rw [← hoo]
            clear hoo
            generalize n / 4 = r at *
            have hdt : decide ((2 : Int) < (n : Int)) = true := decide_eq_true h2I
            go_wp2_with fail
            rw [hdt]
            clear hdt
            go_loopw [9] (fun i wq => ∃ x : Nat, i = .int .i64 (x : Int) ∧ x ≤ r ∧ Hid (HK w j ga' ca gb' cb A (pS j x vv oo) wq)) (fun i _ => r - (intOf i).toNat)
            case atStart => exact ⟨0, rfl, Nat.zero_le _, HZ0.out⟩
            case round =>
              obtain ⟨x, rfl, hx', hK⟩ := hrel
              clear HZ0
              by_cases hlt : x < r
              · obtain ⟨q, hq⟩ : ∃ q : Nat, j - 1 - x = q := ⟨_, rfl⟩
                have hqI : (j : Int) - 1 - (x : Int) = (q : Int) := by omega
                have hne : x ≠ q := by omega
                have hlen : j = (pS j x vv oo).length := (pS_len _ _ _ _).symm
                obtain ⟨c1, f1⟩ := hK.out.d.cellAt hlen x (by rw [pS_len]; omega)
                obtain ⟨c2, f2⟩ := hK.out.d.cellAt hlen q (by rw [pS_len]; omega)
                rw [pS_lo vv oo (by omega), HO.out x] at c1
                rw [← hq, pS_hi vv oo (by omega), HO.out (j - 1 - x), hq] at c2
                obtain ⟨p1, p2⟩ := HP.out x hlt
                rw [hq] at p1 p2
                have hr := HRow.out x hlt
                have hx := HLBb.out x
                have hy := HLBb.out q
                have HTj := hid (fun W => l8Turn_calls (n : Int) (x : Int) (B.getD x 0) (B.getD q 0) W hr.1 (by omega) (by omega))
                have e1' : (tbF n x (B.getD x 0) (B.getD q 0)).1 = tbA (pV (n : Int) (x : Int)) (uV (n : Int) (x : Int)) (B.getD x 0) (B.getD q 0) := rfl
                have e2' : (tbF n x (B.getD x 0) (B.getD q 0)).2 = tbB (pV (n : Int) (x : Int)) (uV (n : Int) (x : Int)) (B.getD x 0) (B.getD q 0) := rfl
                rw [e1'] at p1
                rw [e2'] at p2
                rw [← p1, ← p2] at HTj
                have hstep := pS_step (m := j) (k := x) vv oo
                rw [hq] at hstep
                have HStep := hid hstep
                have Hlen := hid hlen
                have e1 : IntKind.i64.wrap ((j : Int)) = (j : Int) := wrapk_of (by omega) (by omega)
                have e2 : IntKind.i64.wrap ((j : Int) - 1) = (j : Int) - 1 := wrapk_of (by omega) (by omega)
                have e3 : IntKind.i64.wrap (q : Int) = (q : Int) := wrapk_of (by omega) (by omega)
                have hk8 : (r : Int) ≤ 4 := by omega
                have hjr : (x : Int) < (r : Int) := by omega
                have hjk : (x : Int) < (j : Int) := by omega
                have hqk : (q : Int) < (j : Int) := by omega
                clear p1 p2 e1' e2' hr hx hy hstep hlen f1 f2 hq HP HRow hr1
                generalize B.getD x 0 = zx at *
                generalize B.getD q 0 = zy at *
                have hA : HK w j ga' ca gb' cb A (pS j x vv oo) wr.drew ∧ wr.drew.cell? ⟨gb', x, none⟩ = some (.int .i64 zx) ∧ wr.drew.cell? ⟨gb', q, none⟩ = some (.int .i64 zy) := ⟨hK.out.drew, c1, c2⟩
                go_wp2_with fail
                refine wp_region_noPanic ?_
                refine wp_region_held_drew (S := fun W => HK w j ga' ca gb' cb A (pS j x vv oo) W ∧ W.cell? ⟨gb', x, none⟩ = some (.int .i64 zx) ∧ W.cell? ⟨gb', q, none⟩ = some (.int .i64 zy)) (by kernel_rfl) ?_ (fun hHeld => ?_)
                · assumption
                (refine wpAnyH_take (i := 0) (v := ?_) rfl (by kernel_rfl) (by kernel_rfl) (by kernel_rfl) (fun _ _ _ h => h) (Or.inl ⟨by rfl, ?_⟩) hHeld ?_; rotate_left; (intro w hSw; (obtain ⟨_, s1, s2⟩ := hSw); (go_simp <;> with_reducible rfl)); simp only [List.getElem_toArray, List.getElem_cons_zero, Act.put, List.setIfInBounds_toArray, List.set_cons_zero, List.set_cons_succ])
                (refine wpAnyH_take (i := 1) (v := ?_) rfl (by kernel_rfl) (by kernel_rfl) (by kernel_rfl) (fun _ _ _ h => h) (Or.inl ⟨by rfl, ?_⟩) hHeld ?_; rotate_left; (intro w hSw; (obtain ⟨_, s1, s2⟩ := hSw); (go_simp <;> with_reducible rfl)); simp only [List.getElem_toArray, List.getElem_cons_zero, List.getElem_cons_succ, Act.put, List.setIfInBounds_toArray, List.set_cons_zero, List.set_cons_succ])
                (refine wpAnyH_take (i := 2) (v := ?_) rfl (by kernel_rfl) (by kernel_rfl) (by kernel_rfl) (fun _ _ _ h => h) (Or.inl ⟨by rfl, ?_⟩) hHeld ?_; rotate_left; (intro w hSw; (obtain ⟨_, s1, s2⟩ := hSw); (go_simp <;> with_reducible rfl)); simp only [List.getElem_toArray, List.getElem_cons_zero, List.getElem_cons_succ, Act.put, List.setIfInBounds_toArray, List.set_cons_zero, List.set_cons_succ])
                (refine wpAnyH_take (i := 3) (v := ?_) rfl (by kernel_rfl) (by kernel_rfl) (by kernel_rfl) (fun _ _ _ h => h) (Or.inl ⟨by rfl, ?_⟩) hHeld ?_; rotate_left; (intro w hSw; (obtain ⟨_, s1, s2⟩ := hSw); (go_simp <;> with_reducible rfl)); simp only [List.getElem_toArray, List.getElem_cons_zero, List.getElem_cons_succ, Act.put, List.setIfInBounds_toArray, List.set_cons_zero, List.set_cons_succ])
                (refine wpAnyH_take (i := 4) (v := ?_) rfl (by kernel_rfl) (by kernel_rfl) (by kernel_rfl) (fun _ _ _ h => h) (Or.inl ⟨by rfl, ?_⟩) hHeld ?_; rotate_left; (intro w hSw; (obtain ⟨_, s1, s2⟩ := hSw); (go_simp <;> with_reducible rfl)); simp only [List.getElem_toArray, List.getElem_cons_zero, List.getElem_cons_succ, Act.put, List.setIfInBounds_toArray, List.set_cons_zero, List.set_cons_succ])
                (refine wpAnyH_take (i := 5) (v := ?_) rfl (by kernel_rfl) (by kernel_rfl) (by kernel_rfl) (fun _ _ _ h => h) (Or.inl ⟨by rfl, ?_⟩) hHeld ?_; rotate_left; (intro w hSw; (obtain ⟨_, s1, s2⟩ := hSw); (go_simp <;> with_reducible rfl)); simp only [List.getElem_toArray, List.getElem_cons_zero, List.getElem_cons_succ, Act.put, List.setIfInBounds_toArray, List.set_cons_zero, List.set_cons_succ])
                (refine wpAnyH_take (i := 6) (v := ?_) rfl (by kernel_rfl) (by kernel_rfl) (by kernel_rfl) (fun _ _ _ h => h) (Or.inl ⟨by rfl, ?_⟩) hHeld ?_; rotate_left; (intro w hSw; (obtain ⟨_, s1, s2⟩ := hSw); (go_simp <;> with_reducible rfl)); simp only [List.getElem_toArray, List.getElem_cons_zero, List.getElem_cons_succ, Act.put, List.setIfInBounds_toArray, List.set_cons_zero, List.set_cons_succ])
                (refine wpAnyH_take (i := 7) (v := ?_) rfl (by kernel_rfl) (by kernel_rfl) (by kernel_rfl) (fun _ _ _ h => h) (Or.inl ⟨by rfl, ?_⟩) hHeld ?_; rotate_left; (intro w hSw; (obtain ⟨_, s1, s2⟩ := hSw); (go_simp <;> with_reducible rfl)); simp only [List.getElem_toArray, List.getElem_cons_zero, List.getElem_cons_succ, Act.put, List.setIfInBounds_toArray, List.set_cons_zero, List.set_cons_succ])
                (refine wpAnyH_take (i := 8) (v := ?_) rfl (by kernel_rfl) (by kernel_rfl) (by kernel_rfl) (fun _ _ _ h => h) (Or.inl ⟨by rfl, ?_⟩) hHeld ?_; rotate_left; (intro w hSw; (obtain ⟨_, s1, s2⟩ := hSw); (go_simp <;> with_reducible rfl)); simp only [List.getElem_toArray, List.getElem_cons_zero, List.getElem_cons_succ, Act.put, List.setIfInBounds_toArray, List.set_cons_zero, List.set_cons_succ])
                (refine wpAnyH_take (i := 9) (v := ?_) rfl (by kernel_rfl) (by kernel_rfl) (by kernel_rfl) (fun _ _ _ h => h) (Or.inl ⟨by rfl, ?_⟩) hHeld ?_; rotate_left; (intro w hSw; (obtain ⟨_, s1, s2⟩ := hSw); (go_simp <;> with_reducible rfl)); simp only [List.getElem_toArray, List.getElem_cons_zero, List.getElem_cons_succ, Act.put, List.setIfInBounds_toArray, List.set_cons_zero, List.set_cons_succ])
                (refine wpAnyH_take (i := 10) (v := ?_) rfl (by kernel_rfl) (by kernel_rfl) (by kernel_rfl) (fun _ _ _ h => h) (Or.inl ⟨by rfl, ?_⟩) hHeld ?_; rotate_left; (intro w hSw; (obtain ⟨_, s1, s2⟩ := hSw); (go_simp <;> with_reducible rfl)); simp only [List.getElem_toArray, List.getElem_cons_zero, List.getElem_cons_succ, Act.put, List.setIfInBounds_toArray, List.set_cons_zero, List.set_cons_succ])
                (refine wpAnyH_take (i := 11) (v := ?_) rfl (by kernel_rfl) (by kernel_rfl) (by kernel_rfl) (fun _ _ _ h => h) (Or.inl ⟨by rfl, ?_⟩) hHeld ?_; rotate_left; (intro w hSw; (obtain ⟨_, s1, s2⟩ := hSw); (go_simp <;> with_reducible rfl)); simp only [List.getElem_toArray, List.getElem_cons_zero, List.getElem_cons_succ, Act.put, List.setIfInBounds_toArray, List.set_cons_zero, List.set_cons_succ])
                (refine wpAnyH_take (i := 12) (v := ?_) rfl (by kernel_rfl) (by kernel_rfl) (by kernel_rfl) (fun _ _ _ h => h) (Or.inl ⟨by rfl, ?_⟩) hHeld ?_; rotate_left; (intro w hSw; (obtain ⟨_, s1, s2⟩ := hSw); (go_simp <;> with_reducible rfl)); simp only [List.getElem_toArray, List.getElem_cons_zero, List.getElem_cons_succ, Act.put, List.setIfInBounds_toArray, List.set_cons_zero, List.set_cons_succ])
                (refine wpAnyH_take (i := 13) (v := ?_) rfl (by kernel_rfl) (by kernel_rfl) (by kernel_rfl) (fun _ _ _ h => h) (Or.inl ⟨by rfl, ?_⟩) hHeld ?_; rotate_left; (intro w hSw; (obtain ⟨_, s1, s2⟩ := hSw); (go_simp <;> with_reducible rfl)); simp only [List.getElem_toArray, List.getElem_cons_zero, List.getElem_cons_succ, Act.put, List.setIfInBounds_toArray, List.set_cons_zero, List.set_cons_succ])
                (refine wpAnyH_ready (rs := [14]) (by kernel_rfl) (by simp) ?_; refine AllReadyH.cons rfl (fun K hK => ?_) AllReadyH.nil; go_simp; (refine (HTj.out _).mono ?_; rintro e w9 ⟨rfl, rfl⟩); refine hK.out _ _ ?_ (fun hHeld => ?_); (assumption); clear hK K; try dsimp only)
                (refine wpAnyH_take (i := 15) (v := ?_) rfl (by kernel_rfl) (by kernel_rfl) (by kernel_rfl) (fun _ _ _ h => h) (Or.inl ⟨by rfl, ?_⟩) hHeld ?_; rotate_left; (intro w hSw; (obtain ⟨_, s1, s2⟩ := hSw); (go_simp <;> with_reducible rfl)); simp only [List.getElem_toArray, List.getElem_cons_zero, List.getElem_cons_succ, Act.put, List.setIfInBounds_toArray, List.set_cons_zero, List.set_cons_succ])
                (refine wpAnyH_take (i := 16) (v := ?_) rfl (by kernel_rfl) (by kernel_rfl) (by kernel_rfl) (fun _ _ _ h => h) (Or.inl ⟨by rfl, ?_⟩) hHeld ?_; rotate_left; (intro w hSw; (obtain ⟨_, s1, s2⟩ := hSw); (go_simp <;> with_reducible rfl)); simp only [List.getElem_toArray, List.getElem_cons_zero, List.getElem_cons_succ, Act.put, List.setIfInBounds_toArray, List.set_cons_zero, List.set_cons_succ])
                (refine wpAnyH_take (i := 17) (v := ?_) rfl (by kernel_rfl) (by kernel_rfl) (by kernel_rfl) (fun _ _ _ h => h) (Or.inl ⟨by rfl, ?_⟩) hHeld ?_; rotate_left; (intro w hSw; (obtain ⟨_, s1, s2⟩ := hSw); (go_simp <;> with_reducible rfl)); simp only [List.getElem_toArray, List.getElem_cons_zero, List.getElem_cons_succ, Act.put, List.setIfInBounds_toArray, List.set_cons_zero, List.set_cons_succ])
                (refine wpAnyH_take (i := 18) (v := ?_) rfl (by kernel_rfl) (by kernel_rfl) (by kernel_rfl) (fun _ _ _ h => h) (Or.inl ⟨by rfl, ?_⟩) hHeld ?_; rotate_left; (intro w hSw; (obtain ⟨_, s1, s2⟩ := hSw); (go_simp <;> with_reducible rfl)); simp only [List.getElem_toArray, List.getElem_cons_zero, List.getElem_cons_succ, Act.put, List.setIfInBounds_toArray, List.set_cons_zero, List.set_cons_succ])
                (refine wpAnyH_take (i := 19) (v := ?_) rfl (by kernel_rfl) (by kernel_rfl) (by kernel_rfl) (fun _ _ _ h => h) (Or.inl ⟨by rfl, ?_⟩) hHeld ?_; rotate_left; (intro w hSw; (obtain ⟨_, s1, s2⟩ := hSw); (go_simp <;> with_reducible rfl)); simp only [List.getElem_toArray, List.getElem_cons_zero, List.getElem_cons_succ, Act.put, List.setIfInBounds_toArray, List.set_cons_zero, List.set_cons_succ])
                refine wpAnyH_done (by kernel_rfl) ?_ _
                refine NoPanic.normal ?_
                have HB := hid hHeld.1
                clear hHeld hA hK c1 c2 HTj
                generalize wr.drew = W1 at *
                obtain ⟨c1, f1⟩ := HB.out.d.cellAt Hlen.out x (by rw [pS_len]; omega)
                obtain ⟨c2, f2⟩ := HB.out.d.cellAt Hlen.out q (by rw [pS_len]; omega)
                have HK2 : Hid (HK w j ga' ca gb' cb A (pS j (x + 1) vv oo) ((W1.setCell ⟨gb', x, none⟩ (.int .i64 (vv x))).setCell ⟨gb', q, none⟩ (.int .i64 (vv q)))) := by
                  have hst1 := Ow.set HB.out.d Hlen.out x (vv x)
                  have hst2 := Ow.set hst1.1 (by rw [List.length_set]; exact Hlen.out) q (vv q)
                  have hd2 := hst2.1
                  rw [HStep.out] at hd2
                  have hbd := blk_of HB.out.d
                  refine ⟨HB.out.ne, ?_, hd2, (HB.out.b.setCell (p := ⟨gb', x, none⟩) hbd.1 _).setCell (p := ⟨gb', q, none⟩) hbd.1 _⟩
                  have hne' := HB.out.ne
                  exact Ow.keptNe (Ow.keptNe HB.out.s hst1.2 (fun i e => by simp [Value.ownBlock] at e ⊢; omega)) hst2.2 (fun i e => by simp [Value.ownBlock] at e ⊢; omega)
                clear HB HStep Hlen HO HEnd
                generalize (pS j x vv oo).getD x 0 = z1 at *
                generalize (pS j x vv oo).getD q 0 = z2 at *
                generalize vv x = x' at *
                generalize vv q = y' at *
                go_wp2
                go_roundw
                case rel => exact ⟨x + 1, by go_num, by omega, HK2.out⟩
                case measure => simp [intOf]; omega
              · obtain rfl : x = r := by omega
                rw [HEnd.out] at hK
                go_wp2_with fail
                go_meet
                case rel => exact hK
        case rest =>
          have hK : Hid (HK w j ga' ca gb' cb A (prL (tbF n) n B) wc) := hcut
          clear hcut HK3 HLBb Hln
          generalize prL (tbF n) n B = E at *
          have HZn := hid (fun W => zeros_calls n W (by omega))
          go_wp2_with fail
          refine (HZn.out _).mono ?_
          rintro e w4 ⟨rfl, ho4, hb4⟩
          have HUn := hid (HRe.out.trans (pS_end (k := j) (ubE n A E) (fun _ => 0) (by have := H2m.out; omega)).symm)
          have hV4 : Hid (VO w j ga' ca gb' cb n wc.heap.size A E (pS n 0 (ubE n A E) (fun _ => 0)) w4) := by
            have hbe := blk_of hK.out.d
            have hbs := blk_of hK.out.s
            rw [pS_zero, ← rep_mkL]
            exact ⟨⟨hK.out.ne, hK.out.s.later hb4, hK.out.d.later hb4, bthen hK.out.b hb4⟩, by omega, by omega, ho4.mono hK.out.b.size⟩
          have hwcs := hK.out.b.size
          clear ho4 hb4 hK HZn HRe
          have HV := hid (fun y (hy : y < j) => And.intro (ubE_lo (n := n) (s := A) (e := E) (by rw [Hm2.out]; exact hy)) (ubE_hi (n := n) (s := A) (e := E) (by rw [Hm2.out]; exact hy)))
          generalize ubE n A E = vv at *
          go_wp2_with fail
          generalize wc.heap.size = gz at *
          go_loopw [13] (fun i wq => ∃ y : Nat, i = .int .i64 (y : Int) ∧ y ≤ j ∧ Hid (VO w j ga' ca gb' cb n gz A E (pS n y vv (fun _ => 0)) wq)) (fun i _ => j - (intOf i).toNat)
          case atStart => exact ⟨0, rfl, Nat.zero_le _, hV4.out⟩
          case round =>
            obtain ⟨y, rfl, hy', hV⟩ := hrel
            clear hV4
            by_cases hlt : y < j
            · obtain ⟨q, hq⟩ : ∃ q : Nat, n - 1 - y = q := ⟨_, rfl⟩
              have h2m := H2m.out
              have hqI : (n : Int) - 1 - (y : Int) = (q : Int) := by omega
              have hne : y ≠ q := by omega
              have hlen : n = (pS n y vv (fun _ => 0)).length := (pS_len _ _ _ _).symm
              have Hlen := hid hlen
              obtain ⟨c1, _⟩ := hV.out.k.s.cellAt HlA.out.symm y (by rw [HlA.out]; exact hlt)
              obtain ⟨c2, _⟩ := hV.out.k.d.cellAt hEl.out.symm y (by rw [hEl.out]; exact hlt)
              obtain ⟨p1, p2⟩ := HV.out y hlt
              rw [hq] at p2
              have hx := HLAb.out y
              have hy := HLe.out y
              have hcb := ceilV_bd (E.getD y 0) 2 hy.1 (by omega)
              have HCj := hid (fun W => l1Ceil_calls (E.getD y 0) 2 W (by omega) (by omega) hy.1 (by omega))
              have hsame := p1.trans p2.symm
              have hstep := pS_step (m := n) (k := y) vv (fun _ => 0)
              rw [hq] at hstep
              have HStep := hid hstep
              have hjk : (y : Int) < (j : Int) := by omega
              have hjn : (y : Int) < (n : Int) := by omega
              have hqk : (q : Int) < (n : Int) := by omega
              have hjn' : y < n := by omega
              have hqn' : q < n := by omega
              clear p2 hstep hlen hq h2m
              generalize A.getD y 0 = zx at *
              generalize E.getD y 0 = zy at *
              have Hp1 := hid p1
              have Hsame := hid hsame
              clear p1 hsame
              generalize ceilV zy 2 = zc at *
              have hA : VO w j ga' ca gb' cb n gz A E (pS n y vv (fun _ => 0)) wr.drew ∧ wr.drew.cell? ⟨ga', y, none⟩ = some (.int .i64 zx) ∧ wr.drew.cell? ⟨gb', y, none⟩ = some (.int .i64 zy) := ⟨hV.out.drew, c1, c2⟩
              have hsum : zx + zc ≤ 200000000000 := by omega
              go_wp2_with fail
              refine wp_region_noPanic ?_
              refine wp_region_held_drew (S := fun W => VO w j ga' ca gb' cb n gz A E (pS n y vv (fun _ => 0)) W ∧ W.cell? ⟨ga', y, none⟩ = some (.int .i64 zx) ∧ W.cell? ⟨gb', y, none⟩ = some (.int .i64 zy)) (by kernel_rfl) ?_ (fun hHeld => ?_)
              · assumption
              (refine wpAnyH_take (i := 0) (v := ?_) rfl (by kernel_rfl) (by kernel_rfl) (by kernel_rfl) (fun _ _ _ h => h) (Or.inl ⟨by rfl, ?_⟩) hHeld ?_; rotate_left; (intro w hSw; (obtain ⟨_, s1, s2⟩ := hSw); (go_simp <;> with_reducible rfl)); simp only [List.getElem_toArray, List.getElem_cons_zero, Act.put, List.setIfInBounds_toArray, List.set_cons_zero, List.set_cons_succ])
              (refine wpAnyH_take (i := 1) (v := ?_) rfl (by kernel_rfl) (by kernel_rfl) (by kernel_rfl) (fun _ _ _ h => h) (Or.inl ⟨by rfl, ?_⟩) hHeld ?_; rotate_left; (intro w hSw; (obtain ⟨_, s1, s2⟩ := hSw); (go_simp <;> with_reducible rfl)); simp only [List.getElem_toArray, List.getElem_cons_zero, List.getElem_cons_succ, Act.put, List.setIfInBounds_toArray, List.set_cons_zero, List.set_cons_succ])
              (refine wpAnyH_take (i := 2) (v := ?_) rfl (by kernel_rfl) (by kernel_rfl) (by kernel_rfl) (fun _ _ _ h => h) (Or.inl ⟨by rfl, ?_⟩) hHeld ?_; rotate_left; (intro w hSw; (obtain ⟨_, s1, s2⟩ := hSw); (go_simp <;> with_reducible rfl)); simp only [List.getElem_toArray, List.getElem_cons_zero, List.getElem_cons_succ, Act.put, List.setIfInBounds_toArray, List.set_cons_zero, List.set_cons_succ])
              (refine wpAnyH_take (i := 3) (v := ?_) rfl (by kernel_rfl) (by kernel_rfl) (by kernel_rfl) (fun _ _ _ h => h) (Or.inl ⟨by rfl, ?_⟩) hHeld ?_; rotate_left; (intro w hSw; (obtain ⟨_, s1, s2⟩ := hSw); (go_simp <;> with_reducible rfl)); simp only [List.getElem_toArray, List.getElem_cons_zero, List.getElem_cons_succ, Act.put, List.setIfInBounds_toArray, List.set_cons_zero, List.set_cons_succ])
              (refine wpAnyH_take (i := 4) (v := ?_) rfl (by kernel_rfl) (by kernel_rfl) (by kernel_rfl) (fun _ _ _ h => h) (Or.inl ⟨by rfl, ?_⟩) hHeld ?_; rotate_left; (intro w hSw; (obtain ⟨_, s1, s2⟩ := hSw); (go_simp <;> with_reducible rfl)); simp only [List.getElem_toArray, List.getElem_cons_zero, List.getElem_cons_succ, Act.put, List.setIfInBounds_toArray, List.set_cons_zero, List.set_cons_succ])
              (refine wpAnyH_take (i := 5) (v := ?_) rfl (by kernel_rfl) (by kernel_rfl) (by kernel_rfl) (fun _ _ _ h => h) (Or.inl ⟨by rfl, ?_⟩) hHeld ?_; rotate_left; (intro w hSw; (obtain ⟨_, s1, s2⟩ := hSw); (go_simp <;> with_reducible rfl)); simp only [List.getElem_toArray, List.getElem_cons_zero, List.getElem_cons_succ, Act.put, List.setIfInBounds_toArray, List.set_cons_zero, List.set_cons_succ])
              (refine wpAnyH_take (i := 6) (v := ?_) rfl (by kernel_rfl) (by kernel_rfl) (by kernel_rfl) (fun _ _ _ h => h) (Or.inl ⟨by rfl, ?_⟩) hHeld ?_; rotate_left; (intro w hSw; (obtain ⟨_, s1, s2⟩ := hSw); (go_simp <;> with_reducible rfl)); simp only [List.getElem_toArray, List.getElem_cons_zero, List.getElem_cons_succ, Act.put, List.setIfInBounds_toArray, List.set_cons_zero, List.set_cons_succ])
              (refine wpAnyH_take (i := 7) (v := ?_) rfl (by kernel_rfl) (by kernel_rfl) (by kernel_rfl) (fun _ _ _ h => h) (Or.inl ⟨by rfl, ?_⟩) hHeld ?_; rotate_left; (intro w hSw; (obtain ⟨_, s1, s2⟩ := hSw); (go_simp <;> with_reducible rfl)); simp only [List.getElem_toArray, List.getElem_cons_zero, List.getElem_cons_succ, Act.put, List.setIfInBounds_toArray, List.set_cons_zero, List.set_cons_succ])
              (refine wpAnyH_ready (rs := [8]) (by kernel_rfl) (by simp) ?_; refine AllReadyH.cons rfl (fun K hK => ?_) AllReadyH.nil; go_simp; (refine (HCj.out _).mono ?_; rintro e w9 ⟨rfl, rfl⟩); refine hK.out _ _ ?_ (fun hHeld => ?_); (assumption); clear hK K; try dsimp only)
              (refine wpAnyH_take (i := 9) (v := ?_) rfl (by kernel_rfl) (by kernel_rfl) (by kernel_rfl) (fun _ _ _ h => h) (Or.inl ⟨by rfl, ?_⟩) hHeld ?_; rotate_left; (intro w hSw; (obtain ⟨_, s1, s2⟩ := hSw); (go_simp <;> with_reducible rfl)); simp only [List.getElem_toArray, List.getElem_cons_zero, List.getElem_cons_succ, Act.put, List.setIfInBounds_toArray, List.set_cons_zero, List.set_cons_succ])
              (refine wpAnyH_take (i := 10) (v := ?_) rfl (by kernel_rfl) (by kernel_rfl) (by kernel_rfl) (fun _ _ _ h => h) (Or.inl ⟨by rfl, ?_⟩) hHeld ?_; rotate_left; (intro w hSw; (obtain ⟨_, s1, s2⟩ := hSw); (go_simp <;> with_reducible rfl)); simp only [List.getElem_toArray, List.getElem_cons_zero, List.getElem_cons_succ, Act.put, List.setIfInBounds_toArray, List.set_cons_zero, List.set_cons_succ])
              refine wpAnyH_done (by kernel_rfl) ?_ _
              refine NoPanic.normal ?_
              have HB := hid hHeld.1
              clear hHeld hA hV c1 c2 HCj
              generalize wr.drew = W1 at *
              obtain ⟨c1, f1⟩ := HB.out.o.cellAt Hlen.out y (by rw [pS_len]; omega)
              obtain ⟨c2, f2⟩ := HB.out.o.cellAt Hlen.out q (by rw [pS_len]; omega)
              have HV2 : Hid (VO w j ga' ca gb' cb n gz A E (pS n (y + 1) vv (fun _ => 0)) ((W1.setCell ⟨gz, y, none⟩ (.int .i64 (zx + zc))).setCell ⟨gz, q, none⟩ (.int .i64 (zx + zc)))) := by
                have e1 := Hp1.out
                have e2 := Hsame.out
                rw [← e1]
                have hst1 := Ow.set HB.out.o Hlen.out y (vv y)
                have hst2 := Ow.set hst1.1 (by rw [List.length_set]; exact Hlen.out) q (vv q)
                have hd2 := hst2.1
                rw [HStep.out] at hd2
                rw [← e2] at hd2 hst2
                have hbd := blk_of HB.out.o
                have n1 := HB.out.n1
                have n2 := HB.out.n2
                exact ⟨⟨HB.out.k.ne, Ow.keptNe (Ow.keptNe HB.out.k.s hst1.2 (fun i e => by simp [Value.ownBlock] at e ⊢; omega)) hst2.2 (fun i e => by simp [Value.ownBlock] at e ⊢; omega), Ow.keptNe (Ow.keptNe HB.out.k.d hst1.2 (fun i e => by simp [Value.ownBlock] at e ⊢; omega)) hst2.2 (fun i e => by simp [Value.ownBlock] at e ⊢; omega), (HB.out.k.b.setCell (p := ⟨gz, y, none⟩) hbd.1 _).setCell (p := ⟨gz, q, none⟩) hbd.1 _⟩, n1, n2, hd2⟩
              clear HB HStep Hlen HV HUn Hp1 Hsame
              generalize (pS n y vv (fun _ => 0)).getD y 0 = z1 at *
              generalize (pS n y vv (fun _ => 0)).getD q 0 = z2 at *
              go_wp2
              go_roundw
              case rel => exact ⟨y + 1, by go_num, by omega, HV2.out⟩
              case measure => simp [intOf]; omega
            · obtain rfl : y = j := by omega
              go_wp2
              go_ret
              exact ⟨gz, _, rfl, by rw [HUn.out]; exact hV.out.o, hV.out.k.b⟩
end Go.Proofs.YtbakmphopgkpmaaDoor.BndG
