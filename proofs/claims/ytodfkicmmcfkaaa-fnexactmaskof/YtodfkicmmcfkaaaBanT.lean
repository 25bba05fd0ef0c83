/- The model's bands: coefficients of a size, the bands, their norms, the mask. Conditions: lists of at most 1048576 numbers that fit their memory. -/
import Derived.Test.YtodfkicmmcfkaaaBanN
import Derived.Test.YtodfkicmmcfkaaaBaL
namespace Go.Proofs.Ytodfkicmmcfkaaa.BanT
open Go.ChangeShapes Go.WideShapes Go.ChangeAt Go.RowKit Go.Proofs.Ytodfkicmmcfkaaa.Num Go.Proofs.Ytodfkicmmcfkaaa.Div Go.Proofs.Ytodfkicmmcfkaaa.Samp Go.Proofs.Ytodfkicmmcfkaaa.Sli Go.Proofs.Ytodfkicmmcfkaaa.App Go.Proofs.Ytodfkicmmcfkaaa.Blk Go.Proofs.Ytodfkicmmcfkaaa.Norm Go.Proofs.Ytodfkicmmcfkaaa.IntL Go.Proofs.Ytodfkicmmcfkaaa.IntA Go.Proofs.Ytodfkicmmcfkaaa.HalM Go.Proofs.Ytodfkicmmcfkaaa.BloS Go.Proofs.Ytodfkicmmcfkaaa.BanM Go.Proofs.Ytodfkicmmcfkaaa.BanN Go.Proofs.Ytodfkicmmcfkaaa.BaL

/-- A part of a list. -/
theorem sl_part {W : World} {b off n c c2 f m : Nat} {l : List Int} (h : Sl .i64 W (.slice (some ⟨b, off, none⟩) n c) l) (hf : f + m ≤ n) (hm1 : 1 ≤ m) : Sl .i64 W (.slice (some ⟨b, off + f, none⟩) m c2) ((l.drop f).take m) := by
  obtain ⟨a', c', e, hc⟩ := h
  have e1 : l.length = n ∧ a' = some ⟨b, off, none⟩ := by cases e; exact ⟨rfl, rfl⟩
  obtain ⟨hl, rfl⟩ := e1
  have hne : l ≠ [] := by intro e; rw [e] at hl; simp at hl; omega
  obtain ⟨b2, o2, e2, hlt, hcell⟩ := hc hne
  cases e2
  have hlen : ((l.drop f).take m).length = m := by rw [List.length_take, List.length_drop]; omega
  refine ⟨_, c2, by rw [hlen], fun _ => ⟨b, off + f, rfl, hlt, fun i hi => ?_⟩⟩
  rw [hlen] at hi
  rw [Nat.add_assoc, hcell (f + i) (by omega)]
  congr 2
  simp [List.getD_eq_getElem?_getD, List.getElem?_drop, hi]
theorem l13Coefs_calls (s : Int) (v : Value) (l : List Int) (w : World) (h : Sl .i64 w v l) (hm : l.length ≤ 1048576) :
    Calls Try.prog 44 #[.int .i64 s, v] w fun e w' => e = .returned (.int .i64 (cfC s l)) ∧ w' = w := by
  have HS := hid (specSizeFault_calls s)
  have HA := hid (fun W (hW : Sl .i64 W v l) => l6Ask_calls v l 16777216 W hW hm (by omega) (by omega))
  have Hs := hid h
  obtain ⟨a, cap, rfl, _⟩ := h
  by_cases hz : szF s = 0
  · rw [hz] at HS
    by_cases hl : (l.length : Int) = s
    · have H : Hid (akC 16777216 l = cfC s l) := by show _ = _; unfold cfC; rw [if_pos hz, if_pos hl]
      have b1 : ((l.length : Int) != s) = false := by simpa using hl
      clear hz hl
      generalize akC 16777216 l = c at *
      go_enter Try.func44, Try.ntmps44
      go_wp2_with (first | (go_at_call 16; refine (HS.out _).mono ?_; rintro e w' ⟨rfl, rfl⟩) | (go_at_call 61; refine (HA.out _ Hs.out).mono ?_; rintro e w' ⟨rfl, rfl⟩))
      go_ret
      exact ⟨by rw [← H.out]; rfl, rfl⟩
    · have H : Hid (2 = cfC s l) := by show _ = _; unfold cfC; rw [if_pos hz, if_neg hl]
      have b1 : ((l.length : Int) != s) = true := by simpa using hl
      clear hz hl HA
      go_enter Try.func44, Try.ntmps44
      go_wp2_with (go_at_call 16; refine (HS.out _).mono ?_; rintro e w' ⟨rfl, rfl⟩)
      go_ret
      exact ⟨by rw [← H.out]; rfl, rfl⟩
  · have H : Hid (szF s = cfC s l) := by show _ = _; unfold cfC; rw [if_neg hz]
    have b1 : (szF s != 0) = true := by simpa using hz
    clear hz HA
    generalize szF s = c at *
    go_enter Try.func44, Try.ntmps44
    go_wp2_with (go_at_call 16; refine (HS.out _).mono ?_; rintro e w' ⟨rfl, rfl⟩)
    go_ret
    exact ⟨by rw [← H.out]; rfl, rfl⟩
theorem l13Bands_calls (s : Int) (w : World) (hs : s = 4 ∨ s = 8 ∨ s = 16) :
    Calls Try.prog 49 #[.int .i64 s] w fun e w' => ∃ g, e = .returned (.slice (some ⟨g, 0, none⟩) (bC s) (bC s)) ∧ OwB w.heap.size w' (.slice (some ⟨g, 0, none⟩) (bC s) (bC s)) (bnL s) ∧ Below w.heap.size w w' := by
  rcases hs with rfl | rfl | rfl
  · go_enter Try.func49, Try.ntmps49
    go_wp2
    go_ret
    exact ⟨_, rfl, owB_one _ _ 2 2 (Nat.le_refl _), bmore (Below.refl _ _) _⟩
  · go_enter Try.func49, Try.ntmps49
    go_wp2
    go_ret
    exact ⟨_, rfl, owB_two _ _ 4 2 6 2 (Nat.le_refl _), bmore (Below.refl _ _) _⟩
  · go_enter Try.func49, Try.ntmps49
    go_wp2
    go_ret
    exact ⟨_, rfl, owB_two _ _ 8 4 12 4 (Nat.le_refl _), bmore (Below.refl _ _) _⟩
theorem specBandsOf_calls (s : Int) (w : World) : Calls Try.prog 20 #[.int .i64 s] w fun e w' => ∃ u, e = .returned (.agg #[.int .i64 (bsC s), u]) ∧ OwB w.heap.size w' u (bsL s) ∧ Below w.heap.size w w' := by
  have HS := hid (specSizeFault_calls s)
  by_cases hz : szF s = 0
  · have hs : s = 4 ∨ s = 8 ∨ s = 16 := by
      unfold szF at hz
      by_cases q : s = 4 ∨ s = 8 ∨ s = 16
      · exact q
      · rw [if_neg q] at hz; omega
    have H : Hid (0 = bsC s ∧ bnL s = bsL s) := ⟨hz.symm, (if_pos hz).symm⟩
    have HB := hid (fun W => l13Bands_calls s W hs)
    rw [hz] at HS
    clear hz hs
    go_enter Try.func20, Try.ntmps20
    go_wp2_with (go_at_call 16; refine (HS.out _).mono ?_; rintro e w' ⟨rfl, rfl⟩)
    refine (HB.out _).mono ?_
    rintro e w1 ⟨g, rfl, ho, hb⟩
    have hK := (Blk.new w #[.int .i64 0, .slice none 0 0] 35).later hb
    obtain ⟨c0, c1, f0, f1⟩ := hK.two
    have HL := hid (bthen (bmore (Below.refl _ w) (.cells #[.int .i64 0, .slice none 0 0] 35)) hb)
    have HO := hid (ho.mono (base' := w.heap.size + 1) (by rw [World.size_alloc]; exact Nat.le_refl _))
    clear hK hb ho HB
    generalize bC s = n at *
    go_wp2
    exact bodyPost_ret (v := .agg #[.int .i64 0, .slice (some ⟨g, 0, none⟩) n n]) (by simp [results, Try.results20, go_sem, c0, c1]) rfl ⟨_, by rw [← H.out.1], by rw [← H.out.2]; exact HO.out.setR _ _, below_set2 HL.out _ _⟩
  · have H : Hid (szF s = bsC s ∧ [] = bsL s) := ⟨rfl, (if_neg hz).symm⟩
    have b1 : (szF s != 0) = true := by simpa using hz
    clear hz
    generalize szF s = c at *
    go_enter Try.func20, Try.ntmps20
    go_wp2_with (go_at_call 16; refine (HS.out _).mono ?_; rintro e w' ⟨rfl, rfl⟩)
    exact bodyPost_ret (v := .agg #[.int .i64 c, .slice none 0 0]) (by simp [results, Try.results20, go_sem]) rfl ⟨_, by rw [← H.out.1], by rw [← H.out.2]; exact owB_nil _ _, bmore (Below.refl _ _) _⟩
theorem l13Of_calls (f d : Nat) (b off n c : Nat) (l : List Int) (w : World) (h : Sl .i64 w (.slice (some ⟨b, off, none⟩) n c) l) (hfit : n ≤ c) (hn : n ≤ 1048576) (hf : f + d ≤ n) (hd : 1 ≤ d) :
    Calls Try.prog 63 #[.agg #[.int .i64 (f : Int), .int .i64 (d : Int)], .slice (some ⟨b, off, none⟩) n c] w fun e w' => ∃ c2 : Nat, e = .returned (.slice (some ⟨b, off + f, none⟩) d c2) ∧ Sl .i64 w' (.slice (some ⟨b, off + f, none⟩) d c2) (bdL l (f, d)) ∧ Below w.heap.size w w' := by
  have HB := hid (bmore (Below.refl _ w) (.cells #[.int .i64 (f : Int), .int .i64 (d : Int)] 40))
  have HS := hid (fun c2 => (sl_part (c2 := c2) h hf hd).later (bmore (Below.refl _ w) (.cells #[.int .i64 (f : Int), .int .i64 (d : Int)] 40)))
  clear h
  go_enter Try.func63, Try.ntmps63
  go_wp2
  go_ret
  refine ⟨c - f, ?_, HS.out _, HB.out⟩
  have e : Ending.returned (.slice (some ⟨b, off + f, none⟩) (f + d - f) (c - f)) = .returned (.slice (some ⟨b, off + f, none⟩) d (c - f)) := by rw [Nat.add_sub_cancel_left]
  exact e
theorem l1Norm_calls (v : Value) (l : List Int) (w : World) (h : Sl .i64 w v l) (hm : l.length ≤ 16) (ha : l.all coB = true) :
    Calls Try.prog 62 #[v] w fun e w' => e = .returned (.int .i64 (sumAbs l)) ∧ w' = w := by
  obtain ⟨a, cap, rfl, hc⟩ := h
  by_cases hne : l = []
  · subst hne
    exact l1Norm_none a cap w
  · obtain ⟨b, off, rfl, _, hcell⟩ := hc hne
    exact l1Norm_some b off cap l w (by omega) (co_top ha) hcell
theorem far {base base' g n c g' n' c' : Nat} {w : World} {ys : List Int} {ls : List B2} (h : OwI base w (.slice (some ⟨g, 0, none⟩) n c) ys) (k : OwB base' w (.slice (some ⟨g', 0, none⟩) n' c') ls) : g ≠ g' := by
  rcases h.2 with ⟨h0, _⟩ | ⟨g1, c1, cur1, h1, _, hg1, _⟩
  · cases h0
  · rcases k.2 with ⟨k0, _⟩ | ⟨g2, c2, cur2, k1, _, hg2, _⟩
    · cases k0
    · cases h1
      cases k1
      intro e
      rw [e, hg2] at hg1
      cases hg1
theorem OwB.keptNe {base g n c r : Nat} {w w' : World} {ls : List B2} (h : OwB base w (.slice (some ⟨g, 0, none⟩) n c) ls) (hg : w.grownBy w' (some r)) (hr : r ≠ g) : OwB base w' (.slice (some ⟨g, 0, none⟩) n c) ls := by
  have h' : w.ownsRow base 40 2 (.slice (some ⟨g, 0, none⟩) n c) ls.length (flat ls) := h
  exact h'.kept hg (Or.inr (fun e => hr (by cases e; rfl)))
set_option maxHeartbeats 4000000 in
theorem l13Norms_calls (s : Int) (v : Value) (l : List Int) (w : World) (h : Sl .i64 w v l) (hfit : Fits v) (hs : s = 4 ∨ s = 8 ∨ s = 16) (hl : (l.length : Int) = s) (ha : l.all coB = true) :
    Calls Try.prog 45 #[.int .i64 s, v] w fun e w' => ∃ u, e = .returned u ∧ OwI w.heap.size w' u (bnNs s l) ∧ Below w.heap.size w w' := by
  have HBs := hid (fun W => l13Bands_calls s W hs)
  have hne : l ≠ [] := by intro e; rw [e] at hl; simp at hl; omega
  have Hs := hid h
  obtain ⟨a, cap, rfl, hc⟩ := h
  obtain ⟨b, off, rfl, _, _⟩ := hc hne
  clear hc
  have hcap : l.length ≤ cap := hfit
  obtain ⟨f0, hf0⟩ : ∃ f0 : Nat, s / 2 = (f0 : Int) := ⟨(s / 2).toNat, by omega⟩
  have hdor := bd_or s
  have hcor := bc_or s
  have HEnd := bn_end hs
  have HGet := hid (fun j (hj : j < bC s) => bn_get hs hj)
  have HLen := hid (bn_len hs)
  have HTake := hid (fun j (hj : j < bC s) => ns_take hs l hj)
  have HNl := hid (ns_len hs l)
  have HOf := hid (fun f d W (hW : Sl .i64 W (.slice (some ⟨b, off, none⟩) l.length cap) l) (h1 : f + d ≤ l.length) (h2 : 1 ≤ d) => l13Of_calls f d b off l.length cap l W hW hcap (by omega) h1 h2)
  have HNo := hid (fun u (q : Int × Int) W (hW : Sl .i64 W u (bdL l q)) (hq : (bdL l q).length ≤ 16) => l1Norm_calls u (bdL l q) W hW hq (all_bd ha q))
  have hn16 : l.length ≤ 16 := by omega
  have HBd : Hid (∀ q : Int × Int, (bdL l q).length ≤ 16) := fun q => by
    show (List.take _ _).length ≤ 16
    rw [List.length_take, List.length_drop]; omega
  have H0 := hid (ow_new .i64 2 w.heap.size w (Nat.le_refl _))
  have HB0 := hid (bmore (Below.refl _ w) (.cells #[] 2))
  have HAll : Hid ((bnNs s l).take (bC s) = bnNs s l) := List.take_of_length_le (by rw [ns_len hs l]; exact Nat.le_refl _)
  rw [hf0] at HEnd HGet HTake
  have HLs := hid hl
  clear hs ha hfit hne hl
  generalize bD s = d at *
  generalize bC s = m at *
  generalize bnL s = bl at *
  generalize bnNs s l = N at *
  go_enter Try.func45, Try.ntmps45
  go_wp2_with fail
  refine (HBs.out _).mono ?_
  rintro e w1 ⟨g, rfl, ho1, hb1⟩
  have HOb := hid ho1
  have HO1 := hid (H0.out.later hb1)
  have HB1 := hid (bthen HB0.out hb1)
  clear ho1 hb1 H0 HB0 HBs
  go_wp2_with fail
  go_loopw [5, 7] (fun o i wr => ∃ j go n5 c5 : Nat, j ≤ m ∧ i = .int .i64 (j : Int) ∧ o = .slice (some ⟨go, 0, none⟩) n5 c5 ∧ Hid (n5 = (N.take j).length) ∧ Hid (OwI w.heap.size wr (.slice (some ⟨go, 0, none⟩) n5 c5) (N.take j)) ∧ Hid (∃ base, OwB base wr (.slice (some ⟨g, 0, none⟩) m m) bl) ∧ Hid (Below w.heap.size w wr)) (fun _ i _ => m - (intOf i).toNat)
  case atStart => exact ⟨0, _, _, _, Nat.zero_le _, rfl, rfl, rfl, HO1.out, ⟨_, HOb.out⟩, HB1⟩
  case round =>
    obtain ⟨j, go, n5, c5, hj, rfl, rfl, hn5, hO, hOb, hB⟩ := hrel
    clear HO1 HOb HB1
    by_cases hlt : j < m
    · obtain ⟨base, hob⟩ := hOb.out
      obtain ⟨⟨d1, d2⟩, _, _⟩ := hob.cells HLen.out.symm j hlt
      rw [HGet.out j hlt] at d1 d2
      dsimp only at d1 d2
      have hfd : f0 + d * j + d ≤ l.length := by
        have h1 := HLs.out
        have h2 : d * j + d = d * (j + 1) := by rw [Nat.mul_add, Nat.mul_one]
        have h3 : d * (j + 1) ≤ d * m := Nat.mul_le_mul_left d hlt
        have h4 : ((d * m : Nat) : Int) = (d : Int) * (m : Int) := by simp
        generalize (d : Int) * (m : Int) = y at *
        generalize d * m = x at *
        omega
      have hcast : (f0 : Int) + (d : Int) * (j : Int) = ((f0 + d * j : Nat) : Int) := by simp
      have hT := HTake.out j hlt
      rw [hcast] at d1 hT
      have HOj := hid (fun W hW => HOf.out (f0 + d * j) d W hW hfd (by omega))
      have HNj := hid (fun u W hW => HNo.out u (((f0 + d * j : Nat) : Int), (d : Int)) W hW (HBd.out _))
      have HR := hid hT
      clear hT hcast hfd HTake HGet HLen HNl HOf HNo HBd HAll HEnd
      generalize bdL l (((f0 + d * j : Nat) : Int), (d : Int)) = z at *
      generalize f0 + d * j = f at *
      generalize sumAbs z = sz at *
      go_wp2_with fail
      refine (HOj.out _ (Hs.out.later hB.out)).mono ?_
      rintro e w2 ⟨c2, rfl, hz2, hb2⟩
      have HZ2 := hid hz2
      have HO2 := hid (hO.out.later hb2)
      have HB2 := hid (bthen hB.out hb2)
      have HOb2 := hid (hob.later hb2)
      clear hz2 hb2 hO hB hob hOb d1 d2 HOj
      go_wp2_with fail
      refine (HNj.out _ _ HZ2.out).mono ?_
      rintro e w3 ⟨rfl, rfl⟩
      have HO3 := hid (HO2.out.alloc (.cells #[.int .i64 sz] 2))
      have HB3 := hid (bmore HB2.out (.cells #[.int .i64 sz] 2))
      have HOb3 := hid (HOb2.out.later (bmore (Below.refl _ _) (.cells #[.int .i64 sz] 2)))
      have hjm : (N.take j).length ≤ 4 := by rw [List.length_take]; omega
      clear HO2 HB2 HOb2 HZ2 HNj
      generalize N.take j = ys at *
      go_wp2_with (at_builtin; refine wpList_append_ints _ rfl _ _ rfl w.heap.size _ ys rfl HO3.out _ [sz] rfl (sl_lit _ _ _ _ _ _ rfl rfl) (by simp) ?c1 ?c2 ?_)
      case c1 => simp only [List.length_singleton]; omega
      case c2 => have := HB3.out.size; omega
      intro g6 cap6 n6 w6 hn6 ho6 hg6 _
      have HB6 := hid (HB3.out.trans (below_of_grown hg6 (by have := HB3.out.size; omega) (fun j e => (HO3.out.block j e).1)))
      have HOb6 := hid (OwB.keptNe HOb3.out hg6 (far HO3.out HOb3.out))
      have HO6 := hid ho6
      have HN6 : Hid (n6 = (ys ++ [sz]).length) := by show _ = _; simpa using hn6
      clear hn6 ho6 hg6 HO3 HB3 HOb3
      go_wp2
      go_roundw
      case rel => exact ⟨j + 1, g6, n6, cap6, by omega, by go_num, rfl, by rw [HR.out]; exact HN6.out, by rw [HR.out]; exact HO6.out, ⟨_, HOb6.out⟩, HB6⟩
      case measure => simp [intOf]; omega
    · obtain rfl : j = m := by omega
      rw [HAll.out] at hO
      clear HTake HGet HLen HNl HOf HNo HBd
      go_wp2
      go_ret
      exact ⟨_, rfl, hO.out, hB.out⟩
theorem bn_bad {s : Int} {l : List Int} (h : ¬ cfC s l = 0) : [] = bnV s l := (if_neg h).symm
theorem bn_good {s : Int} {l : List Int} (h : cfC s l = 0) : bnNs s l = bnV s l := (if_pos h).symm
theorem specBandNorms_calls (s : Int) (v : Value) (l : List Int) (w : World) (h : Sl .i64 w v l) (hfit : Fits v) (hm : l.length ≤ 1048576) :
    Calls Try.prog 14 #[.int .i64 s, v] w fun e w' => ∃ u, e = .returned (.agg #[.int .i64 (bnC s l), u]) ∧ OwI w.heap.size w' u (bnV s l) ∧ Below w.heap.size w w' := by
  have HB0 := hid (bmore (Below.refl _ w) (.cells #[.int .i64 0, .slice none 0 0] 28))
  have HC := hid (l13Coefs_calls s v l _ (h.later HB0.out) hm)
  by_cases hz : cfC s l = 0
  · obtain ⟨h1, h2, h3⟩ := cf_yes hz
    have HN := hid (l13Norms_calls s v l _ (h.later HB0.out) hfit h1 h2 h3)
    have H : Hid (0 = bnC s l ∧ bnNs s l = bnV s l) := ⟨hz.symm, bn_good hz⟩
    rw [hz] at HC
    obtain ⟨a, cap, rfl, _⟩ := h
    clear hz h1 h2 h3
    go_enter Try.func14, Try.ntmps14
    go_wp2_with fail
    refine HC.out.mono ?_
    rintro e w1 ⟨rfl, rfl⟩
    go_wp2_with fail
    refine HN.out.mono ?_
    rintro e w1 ⟨u, rfl, ho, hb⟩
    have hK := (Blk.new w #[.int .i64 0, .slice none 0 0] 28).later hb
    obtain ⟨c0, c1, f0, f1⟩ := hK.two
    have HL := hid (bthen HB0.out hb)
    have HO := hid (ho.mono (base' := w.heap.size + 1) (by rw [World.size_alloc]; exact Nat.le_refl _))
    obtain ⟨au, cu, hu, _⟩ := ho.sl
    subst hu
    clear hK hb ho HN HC HB0
    generalize (bnNs s l).length = nn at *
    go_wp2
    exact bodyPost_ret (v := .agg #[.int .i64 0, .slice au nn cu]) (by simp [results, Try.results14, go_sem, c0, c1]) rfl ⟨_, by rw [← H.out.1], by rw [← H.out.2]; exact Ow.set2 HO.out _ _, below_set2 HL.out _ _⟩
  · have H : Hid (cfC s l = bnC s l ∧ [] = bnV s l) := ⟨rfl, bn_bad hz⟩
    have b1 : (cfC s l != 0) = true := by simpa using hz
    obtain ⟨a, cap, rfl, _⟩ := h
    clear hz
    generalize cfC s l = c at *
    go_enter Try.func14, Try.ntmps14
    go_wp2_with fail
    refine HC.out.mono ?_
    rintro e w1 ⟨rfl, rfl⟩
    clear HC
    go_wp2
    exact bodyPost_ret (v := .agg #[.int .i64 c, .slice none 0 0]) (by simp [results, Try.results14, go_sem]) rfl ⟨_, by rw [← H.out.1], by rw [← H.out.2]; exact ow_nil _ _, bmore (Below.refl _ _) _⟩
set_option maxHeartbeats 2000000 in
theorem l13Mask_calls (s : Int) (v : Value) (l : List Int) (w : World) (h : Sl .i64 w v l) (hfit : Fits v) (hs : s = 4 ∨ s = 8 ∨ s = 16) (hl : (l.length : Int) = s) (ha : l.all coB = true) :
    Calls Try.prog 46 #[.int .i64 s, v] w fun e w' => e = .returned (.int .i64 (mskV (loN l) (hiN l))) ∧ w' = w := by
  have hne : l ≠ [] := by intro e; rw [e] at hl; simp at hl; omega
  obtain ⟨f, hf, hf1, hf2⟩ : ∃ f : Nat, s / 2 = (f : Int) ∧ l.length = 2 * f ∧ 1 ≤ f := ⟨l.length / 2, by omega, by omega, by omega⟩
  have hd : Int.tdiv s 2 = s / 2 := by rcases hs with rfl | rfl | rfl <;> rfl
  have kw : wrap64 (s / 2) = s / 2 := wrap_of (by omega) (by omega)
  have hfl : l.length / 2 = f := by omega
  have hl16 : l.length ≤ 16 := by omega
  obtain ⟨a, cap, rfl, hc⟩ := h
  obtain ⟨b, off, rfl, hlt, hcell⟩ := hc hne
  have hS : Sl .i64 w (.slice (some ⟨b, off, none⟩) l.length cap) l := ⟨_, cap, rfl, fun _ => ⟨b, off, rfl, hlt, hcell⟩⟩
  have hcap : l.length ≤ cap := hfit
  have t1 : (l.drop 0).take f = l.take f := rfl
  have t2 : (l.drop f).take (2 * f - f) = l.drop f := List.take_of_length_le (by rw [List.length_drop]; omega)
  have hS1 := fun c2 => sl_part (c2 := c2) (f := 0) (m := f) hS (by omega) (by omega)
  have hS2 := fun c2 => sl_part (c2 := c2) (f := f) (m := 2 * f - f) hS (by omega) (by omega)
  rw [t1] at hS1
  rw [t2] at hS2
  have a1 : (l.take f).all coB = true := all_sub ha (fun _ hx => List.mem_of_mem_take hx)
  have a2 := all_drop ha f
  have n1 : (l.take f).length ≤ 16 := by rw [List.length_take]; omega
  have n2 : (l.drop f).length ≤ 16 := by rw [List.length_drop]; omega
  have HN1 := hid (fun c2 => l1Norm_calls _ _ w (hS1 c2) n1 a1)
  have HN2 := hid (fun c2 => l1Norm_calls _ _ w (hS2 c2) n2 a2)
  have lb := sum_small a1 n1
  have hb := sum_small a2 n2
  have e1 : loN l = sumAbs (l.take f) := by unfold loN; rw [hfl]
  have e2 : hiN l = sumAbs (l.drop f) := by unfold hiN; rw [hfl]
  rw [e1, e2]
  clear e1 e2 hS hS1 hS2 a1 a2 n1 n2 t1 t2 hcell hc ha hne hfit
  generalize sumAbs (l.take f) = lo at *
  generalize sumAbs (l.drop f) = hi at *
  have HM0 := hid (@msk_0 lo hi)
  have HM1 := hid (@msk_1 lo hi)
  have HM2 := hid (@msk_2 lo hi)
  have HM3 := hid (@msk_3 lo hi)
  generalize mskV lo hi = mv at *
  rw [hf] at kw hd
  have hfI : (f : Int) ≤ (l.length : Int) := by omega
  go_enter Try.func46, Try.ntmps46
  go_wp2_with fail
  refine (HN1.out _).mono ?_
  rintro e w1 ⟨rfl, rfl⟩
  go_wp2_with fail
  refine (HN2.out _).mono ?_
  rintro e w1 ⟨rfl, rfl⟩
  clear HN1 HN2 hfI hf hf1 hf2 hfl hl hs kw hd hlt hcap
  go_wp2_with fail
  go_loop [7, 8] (fun m g => (m = .int .i64 0 ∧ g = .int .i64 4) ∨ (m = .int .i64 1 ∧ g = .int .i64 16 ∧ 4 * hi < lo) ∨ (m = .int .i64 2 ∧ g = .int .i64 64 ∧ 4 * hi < lo ∧ 16 * hi < lo) ∨ (m = .int .i64 3 ∧ g = .int .i64 256 ∧ 4 * hi < lo ∧ 16 * hi < lo ∧ 64 * hi < lo)) (fun m _ => 3 - (intOf m).toNat)
  case atStart => exact Or.inl ⟨rfl, rfl⟩
  case round =>
    rcases hrel with ⟨rfl, rfl⟩ | ⟨rfl, rfl, q0⟩ | ⟨rfl, rfl, q0, q1⟩ | ⟨rfl, rfl, q0, q1, q2⟩
    · by_cases q : 4 * hi < lo
      · clear HM0 HM1 HM2 HM3
        go_wp2
        go_round
        case rel => exact Or.inr (Or.inl ⟨rfl, rfl, q⟩)
        case measure => simp [intOf]
      · have H := hid (HM0.out (by omega))
        clear HM0 HM1 HM2 HM3
        go_wp2
        go_ret
        exact ⟨by rw [H.out]; rfl, rfl⟩
    · by_cases q : 16 * hi < lo
      · clear HM0 HM1 HM2 HM3
        go_wp2
        go_round
        case rel => exact Or.inr (Or.inr (Or.inl ⟨rfl, rfl, q0, q⟩))
        case measure => simp [intOf]
      · have H := hid (HM1.out q0 (by omega))
        clear HM0 HM1 HM2 HM3
        go_wp2
        go_ret
        exact ⟨by rw [H.out]; rfl, rfl⟩
    · by_cases q : 64 * hi < lo
      · clear HM0 HM1 HM2 HM3
        go_wp2
        go_round
        case rel => exact Or.inr (Or.inr (Or.inr ⟨rfl, rfl, q0, q1, q⟩))
        case measure => simp [intOf]
      · have H := hid (HM2.out q0 q1 (by omega))
        clear HM0 HM1 HM2 HM3
        go_wp2
        go_ret
        exact ⟨by rw [H.out]; rfl, rfl⟩
    · have H := hid (HM3.out q0 q1 q2)
      clear HM0 HM1 HM2 HM3
      go_wp2
      go_ret
      exact ⟨by rw [H.out]; rfl, rfl⟩
theorem mk_bad {s : Int} {l : List Int} (h : ¬ cfC s l = 0) : 0 = mkV s l := (if_neg h).symm
theorem mk_good {s : Int} {l : List Int} (h : cfC s l = 0) : mskV (loN l) (hiN l) = mkV s l := (if_pos h).symm
theorem specMaskOf_calls (s : Int) (v : Value) (l : List Int) (w : World) (h : Sl .i64 w v l) (hfit : Fits v) (hm : l.length ≤ 1048576) :
    Calls Try.prog 15 #[.int .i64 s, v] w fun e w' => e = .returned (.agg #[.int .i64 (mkC s l), .int .i64 (mkV s l)]) ∧ Below w.heap.size w w' := by
  have HB0 := hid (bmore (Below.refl _ w) (.cells #[.int .i64 0, .int .i64 0] 31))
  have HC := hid (l13Coefs_calls s v l _ (h.later HB0.out) hm)
  by_cases hz : cfC s l = 0
  · obtain ⟨h1, h2, h3⟩ := cf_yes hz
    have HN := hid (l13Mask_calls s v l _ (h.later HB0.out) hfit h1 h2 h3)
    have H : Hid (0 = mkC s l ∧ mskV (loN l) (hiN l) = mkV s l) := ⟨hz.symm, mk_good hz⟩
    rw [hz] at HC
    obtain ⟨a, cap, rfl, _⟩ := h
    clear hz h1 h2 h3
    generalize mskV (loN l) (hiN l) = mv at *
    go_enter Try.func15, Try.ntmps15
    go_wp2_with fail
    refine HC.out.mono ?_
    rintro e w1 ⟨rfl, rfl⟩
    go_wp2_with fail
    refine HN.out.mono ?_
    rintro e w1 ⟨rfl, rfl⟩
    clear HN HC
    go_wp2
    exact bodyPost_ret (v := .agg #[.int .i64 0, .int .i64 mv]) (by simp [results, Try.results15, go_sem]) rfl ⟨by rw [← H.out.1, ← H.out.2], bmore (Below.refl _ _) _⟩
  · have H : Hid (cfC s l = mkC s l ∧ 0 = mkV s l) := ⟨rfl, mk_bad hz⟩
    have b1 : (cfC s l != 0) = true := by simpa using hz
    obtain ⟨a, cap, rfl, _⟩ := h
    clear hz
    generalize cfC s l = c at *
    go_enter Try.func15, Try.ntmps15
    go_wp2_with fail
    refine HC.out.mono ?_
    rintro e w1 ⟨rfl, rfl⟩
    clear HC
    go_wp2
    exact bodyPost_ret (v := .agg #[.int .i64 c, .int .i64 0]) (by simp [results, Try.results15, go_sem]) rfl ⟨by rw [← H.out.1, ← H.out.2], bmore (Below.refl _ _) _⟩
end Go.Proofs.Ytodfkicmmcfkaaa.BanT
