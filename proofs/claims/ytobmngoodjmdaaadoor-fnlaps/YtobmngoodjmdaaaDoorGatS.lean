/- The model's list of coefficients. Conditions: 1, 2, 4, 8 or 16 coefficients, not too great. -/
import Derived.Test.YtobmngoodjmdaaaDoorUniS
namespace Go.Proofs.YtobmngoodjmdaaaDoor.GatS
open Go.ChangeShapes Go.WideShapes Go.ChangeAt Go.RowKit Go.Proofs.YtobmngoodjmdaaaDoor.Num Go.Proofs.YtobmngoodjmdaaaDoor.Sli Go.Proofs.YtobmngoodjmdaaaDoor.App Go.Proofs.YtobmngoodjmdaaaDoor.Div Go.Proofs.YtobmngoodjmdaaaDoor.TurM Go.Proofs.YtobmngoodjmdaaaDoor.HalM Go.Proofs.YtobmngoodjmdaaaDoor.IntL Go.Proofs.YtobmngoodjmdaaaDoor.IntA Go.Proofs.YtobmngoodjmdaaaDoor.HalS Go.Proofs.YtobmngoodjmdaaaDoor.UniS

def evE (c : List Int) (i : Nat) : Int := c.getD (2 * i) 0
def odE (c : List Int) (i : Nat) : Int := c.getD (2 * i + 1) 0
theorem le_bG : ∀ (k : Nat) {M : Int}, 0 ≤ M → 0 ≤ bG k M ∧ M ≤ bG k M
  | 0, _, h => ⟨h, Int.le_refl _⟩
  | k + 1, M, h => by have := le_bG k h; show 0 ≤ 2 * bG k M + 3 ∧ M ≤ 2 * bG k M + 3; omega
set_option maxHeartbeats 1000000 in
theorem l6Gather_calls : ∀ (k : Nat) (v : Value) (c : List Int) (M : Int) (w : World), k ≤ 4 → Sl .i64 w v c → c.length = 2 ^ k → lim M c → bG k M ≤ 34359738368 →
    Calls Tryd.prog 103 #[v] w fun e w' => ∃ g cap, e = .returned (.slice (some ⟨g, 0, none⟩) (2 ^ k : Nat) cap) ∧ OwI w.heap.size w' (.slice (some ⟨g, 0, none⟩) (2 ^ k) cap) (ga k c) ∧ Below w.heap.size w w' := by
  intro k
  induction k with
  | zero =>
    intro v l M w _ h hl _ _
    have HI := hid (ints_calls v l w h (by omega))
    obtain ⟨a, cap, rfl, _⟩ := h
    have h1 : l.length = 1 := hl
    rw [h1] at HI
    rw [h1]
    clear hl h1
    go_enter Tryd.func103, Tryd.ntmps103
    go_wp2_with fail
    refine HI.out.mono ?_
    rintro e w1 ⟨g, cp, rfl, ho, hb⟩
    have HO := hid ho
    have HB := hid hb
    clear ho hb HI
    go_wp2
    go_ret
    exact ⟨g, cp, rfl, HO.out, HB.out⟩
  | succ k ih =>
    intro v c M w hk h hl hM hB
    have h0 := hM.pos
    have hsz : sz4 (2 * 2 ^ k) := by rw [show 2 * 2 ^ k = 2 ^ (k + 1) by rw [Nat.pow_succ]; omega]; exact sz4_pow hk
    have h2k : 2 ^ (k + 1) = 2 * 2 ^ k := by rw [Nat.pow_succ]; omega
    have hl2 : c.length / 2 = 2 ^ k := by rw [hl, h2k]; omega
    have hGk : bG k M ≤ 34359738368 := by
      have h1 : bG (k + 1) M = 2 * bG k M + 3 := rfl
      have := le_bG k h0
      omega
    have hl1 : (ev c).length = 2 ^ k := by rw [ev_len, hl2]
    have hl3 : (od c).length = 2 ^ k := by rw [od_len, hl2]
    have HIE := hid (fun W v' (hv : Sl .i64 W v' (ev c)) => ih v' (ev c) M W (by omega) hv hl1 (lim_ev hM) hGk)
    have HIO := hid (fun W v' (hv : Sl .i64 W v' (od c)) => ih v' (od c) M W (by omega) hv hl3 (lim_od hM) hGk)
    have HlA := hid (ga_len k (ev c) hl1)
    have HlB := hid (ga_len k (od c) hl3)
    have HLA := hid (lim_ga k (by omega) hl1 (lim_ev hM))
    have HLB := hid (lim_ga k (by omega) hl3 (lim_od hM))
    have HE : Hid (ga (k + 1) c = un (ga k (ev c)) (ga k (od c))) := rfl
    have EE : Hid (ev c = mkL (2 ^ k) (evE c)) := by show mkL _ _ = _; rw [hl2]; rfl
    have EO : Hid (od c = mkL (2 ^ k) (odE c)) := by show mkL _ _ = _; rw [hl2]; rfl
    have hne : c ≠ [] := by intro e; rw [e, h2k] at hl; have := Nat.one_le_two_pow (n := k); simp at hl; omega
    rw [h2k]
    rw [h2k] at hl
    have h00 := hid (HK.new w)
    obtain ⟨a, cap, rfl, hc⟩ := h
    obtain ⟨b, off, rfl, hbl, hcell⟩ := hc hne
    have HC := hid hcell
    rw [hl] at HC ⊢
    have h16 : 2 ^ k ≤ 8 ∧ 1 ≤ 2 ^ k := by
      rcases k with _ | _ | _ | _ | k
      · decide
      · decide
      · decide
      · decide
      · omega
    clear ih hM hB hl hl2 h2k hl1 hl3 hc hcell hne
    have HUn := hid (fun W va vb (ha : Sl .i64 W va (ga k (ev c))) (hb : Sl .i64 W vb (ga k (od c))) => l6Unite_calls va vb _ _ (bG k M) W ha hb (by rw [HlA.out]; exact hsz) (by rw [HlA.out, HlB.out]) HLA.out HLB.out hGk)
    rw [HlA.out] at HUn
    clear hsz hGk HLA HLB h0
    generalize ga (k + 1) c = R at *
    generalize ga k (ev c) = A at *
    generalize ga k (od c) = B at *
    generalize 2 ^ k = m at *
    obtain ⟨m8, m1⟩ := h16
    have hn1 : ((2 * m : Nat) : Int) ≠ 1 := by omega
    generalize h2m : 2 * m = n at *
    have H2m := hid h2m
    have hn16 : n ≤ 16 := by omega
    clear h2m
    have hnb : ((n : Int) == 1) = false := by simpa using hn1
    go_enter Tryd.func103, Tryd.ntmps103
    go_wp2_with fail
    go_loopw [3, 4, 5] (fun s d i wq => ∃ j p gs cs gd cd : Nat, i = .int .i64 (p : Int) ∧ Hid (p = 2 * j) ∧ s = .slice (some ⟨gs, 0, none⟩) j cs ∧ d = .slice (some ⟨gd, 0, none⟩) j cd ∧ j ≤ m ∧ Hid (HK w j gs cs gd cd (mkL j (evE c)) (mkL j (odE c)) wq)) (fun _ _ i _ => 20 - (intOf i).toNat)
    case atStart => exact ⟨0, 0, _, _, _, _, rfl, rfl, rfl, rfl, Nat.zero_le _, h00.out⟩
    case round =>
      obtain ⟨j, p, gs, cs, gd, cd, rfl, Hp, rfl, rfl, hj, hK⟩ := hrel
      clear h00
      have h2m := H2m.out
      have hp := Hp.out
      by_cases hlt : j < m
      · have hpn : (p : Int) + 1 < (n : Int) := by omega
        have hpn' : p + 1 < n := by omega
        have c1 := (hK.out.b.cell (p := ⟨b, off + p, none⟩) hbl).trans (HC.out p (by omega))
        have c2 := (hK.out.b.cell (p := ⟨b, off + (p + 1), none⟩) hbl).trans (HC.out (p + 1) (by omega))
        have ES1 := hid (mkL_succ j (evE c))
        have ED1 := hid (mkL_succ j (odE c))
        have e1 : c.getD p 0 = evE c j := by unfold evE; rw [hp]
        have e2 : c.getD (p + 1) 0 = odE c j := by unfold odE; rw [hp]
        rw [e1] at c1
        rw [e2] at c2
        have hbs := blk_of hK.out.s
        have hbd := blk_of hK.out.d
        have hne := hK.out.ne
        have hsw := hK.out.b.size
        have Hyl : Hid ((mkL j (evE c)).length = j ∧ (mkL j (odE c)).length = j) := ⟨mkL_len _ _, mkL_len _ _⟩
        clear hp h2m e1 e2
        generalize evE c j = xs at *
        generalize odE c j = xd at *
        have HO1 := hid (hK.out.s.alloc (.cells #[.int .i64 xs] 2))
        have HQ1 := hid (hK.out.d.alloc (.cells #[.int .i64 xs] 2))
        have HL1 := hid (bmore hK.out.b (.cells #[.int .i64 xs] 2))
        clear hK
        go_wp2_with (at_builtin; refine wpList_append_ints _ rfl _ _ rfl w.heap.size _ (mkL j (evE c)) rfl HO1.out _ [xs] rfl (sl_lit _ _ _ _ _ _ rfl rfl) (by simp) ?c1 ?c2 ?_)
        case c1 => rw [Hyl.out.1]; simp only [List.length_singleton]; omega
        case c2 => simp; omega
        intro g5 cap5 n5 w5 hn5 ho5 hg5 hat5
        have Hn5 : Hid (n5 = j + 1) := by show _ = _; have := Hyl.out.1; first | omega | (simp only [List.length_append, List.length_singleton] at hn5; omega)
        have hne5 : g5 ≠ gd := by
          rcases hat5 with h | h
          · have : gs = g5 := by simpa [Value.ownBlock] using h
            omega
          · omega
        have HD5 := hid (Ow.keptNe HQ1.out hg5 (fun j e => by simp [Value.ownBlock] at e ⊢; omega))
        have hL5 := HL1.out.trans (below_of_grown hg5 (by simp; omega) (fun i e => (HO1.out.block i e).1))
        have HL5 := hid hL5
        have HS5 := hid ho5
        have hs5 : wr.heap.size + 1 ≤ w5.heap.size := by have := hg5.size; simpa using this
        have hb5 := blk_of HS5.out
        have c3 : w5.cell? ⟨b, off + (p + 1), none⟩ = some (.int .i64 xd) := by
          have h1 := (HL1.out.cell (p := ⟨b, off + (p + 1), none⟩) hbl)
          have h2 := (hL5.cell (p := ⟨b, off + (p + 1), none⟩) hbl)
          have h3 : (wr.alloc (.cells #[.int .i64 xs] 2)).cell? ⟨b, off + (p + 1), none⟩ = wr.cell? ⟨b, off + (p + 1), none⟩ := ((Below.refl wr.heap.size wr).alloc (Nat.le_refl _) _).cell (p := ⟨b, off + (p + 1), none⟩) (show b < wr.heap.size by omega)
          rw [h2, ← h1, h3, c2]
        clear hn5 ho5 hg5 hat5 HO1 HQ1 HL1 hL5 c1 c2
        have HO6 := hid (HD5.out.alloc (.cells #[.int .i64 xd] 2))
        have HQ6 := hid (HS5.out.alloc (.cells #[.int .i64 xd] 2))
        have HL6 := hid (bmore HL5.out (.cells #[.int .i64 xd] 2))
        clear HD5 HS5 HL5
        go_wp2_with (at_builtin; refine wpList_append_ints _ rfl _ _ rfl w.heap.size _ (mkL j (odE c)) rfl HO6.out _ [xd] rfl (sl_lit _ _ _ _ _ _ rfl rfl) (by simp) ?c1 ?c2 ?_)
        case c1 => rw [Hyl.out.2]; simp only [List.length_singleton]; omega
        case c2 => simp; omega
        intro g7 cap7 n7 w7 hn7 ho7 hg7 hat7
        have Hn7 : Hid (n7 = j + 1) := by show _ = _; have := Hyl.out.2; first | omega | (simp only [List.length_append, List.length_singleton] at hn7; omega)
        have hne7 : g5 ≠ g7 := by
          rcases hat7 with h | h
          · have : gd = g7 := by simpa [Value.ownBlock] using h
            omega
          · omega
        have HK7 : Hid (HK w (j + 1) g5 cap5 g7 cap7 (mkL (j + 1) (evE c)) (mkL (j + 1) (odE c)) w7) := by
          have hS7 := Ow.keptNe HQ6.out hg7 (fun j e => by simp [Value.ownBlock] at e ⊢; omega)
          have hL7 := HL6.out.trans (below_of_grown hg7 (by simp; omega) (fun i e => (HO6.out.block i e).1))
          rw [Hn5.out] at hS7
          rw [Hn7.out] at ho7
          refine ⟨hne7, ?_, ?_, hL7⟩
          · rw [ES1.out]; exact hS7
          · rw [ED1.out]; exact ho7
        have e5 := Hn5.out
        have e7 := Hn7.out
        subst e5 e7
        clear hn7 ho7 hg7 hat7 HO6 HQ6 HL6 Hn5 Hn7
        go_wp2
        go_roundw
        case rel => exact ⟨j + 1, p + 2, g5, cap5, g7, cap7, by go_num, by have := Hp.out; show _ = _; omega, rfl, rfl, by omega, HK7.out⟩
        case measure => simp [intOf]; omega
      · obtain rfl : j = m := by omega
        rw [← EE.out, ← EO.out] at hK
        have hnot : (n : Int) ≤ (p : Int) + 1 := by omega
        have hpb : (p : Int) ≤ 16 := by omega
        clear h2m hp
        go_wp2_with fail
        refine (HIE.out _ _ hK.out.s.sl).mono ?_
        rintro e w2 ⟨ga', ca, rfl, ho2, hb2⟩
        have HA2 := hid ho2
        have HL2 := hid (bthen hK.out.b hb2)
        have HD2 := hid (hK.out.d.later hb2)
        have hw1 := hK.out.b.size
        clear ho2 hb2 hK HIE
        go_wp2_with fail
        refine (HIO.out _ _ HD2.out.sl).mono ?_
        rintro e w3 ⟨gb', cb, rfl, ho3, hb3⟩
        have HA3 := hid (HA2.out.later hb3)
        have HB3 := hid ho3
        have HL3 := hid (bthen HL2.out hb3)
        have hw3 := HL3.out.size
        clear ho3 hb3 HA2 HL2 HD2 HIO
        go_wp2_with fail
        refine (HUn.out _ _ _ HA3.out.sl HB3.out.sl).mono ?_
        rintro e w4 ⟨gu, rfl, ho4, hb4⟩
        have HO4 := hid (ho4.mono hw3)
        have HL4 := hid (bthen HL3.out hb4)
        clear ho4 hb4
        go_wp2
        go_ret
        exact ⟨gu, _, rfl, by rw [HE.out]; exact HO4.out, HL4.out⟩
end Go.Proofs.YtobmngoodjmdaaaDoor.GatS
