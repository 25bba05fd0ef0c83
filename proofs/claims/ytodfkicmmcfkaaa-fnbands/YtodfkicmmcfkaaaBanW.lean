/- The walk through FnBands. Condition: the program's contracts of BandNorms, MaskOf, BandsOf, LowCount, wherever nothing that was there before has turned. -/
import Derived.Test.YtodfkicmmcfkaaaBanT
import Derived.Test.YtodfkicmmcfkaaaBanS
import Derived.Test.YtodfkicmmcfkaaaBanD
import Derived.Deep.RegionHeld3
import Derived.Deep.DrawnRows
import Derived.Deep.DeepCutAuto
import Derived.Laws.StructEq
namespace Go.Proofs.Ytodfkicmmcfkaaa.BanW
open Go.ChangeShapes Go.WideShapes Go.ChangeAt Go.RowKit Go.Proofs.Ytodfkicmmcfkaaa.Num Go.Proofs.Ytodfkicmmcfkaaa.Sli Go.Proofs.Ytodfkicmmcfkaaa.Div Go.Proofs.Ytodfkicmmcfkaaa.App Go.Proofs.Ytodfkicmmcfkaaa.Samp Go.Proofs.Ytodfkicmmcfkaaa.Blk Go.Proofs.Ytodfkicmmcfkaaa.Norm Go.Proofs.Ytodfkicmmcfkaaa.IntL Go.Proofs.Ytodfkicmmcfkaaa.HalM Go.Proofs.Ytodfkicmmcfkaaa.BanM Go.Proofs.Ytodfkicmmcfkaaa.BanN Go.Proofs.Ytodfkicmmcfkaaa.BanS Go.Proofs.Ytodfkicmmcfkaaa.BaL Go.Proofs.Ytodfkicmmcfkaaa.BanT Go.Proofs.Ytodfkicmmcfkaaa.BanD

theorem fieldI0 (c a : Value) (w : World) : (Instr.field 31 (.agg #[c, a]) 0).run Try.prog w = .ok c w := by kernel_rfl
theorem fieldI1 (c a : Value) (w : World) : (Instr.field 31 (.agg #[c, a]) 1).run Try.prog w = .ok a w := by kernel_rfl
theorem fieldL0 (c a : Value) (w : World) : (Instr.field 28 (.agg #[c, a]) 0).run Try.prog w = .ok c w := by kernel_rfl
theorem neqI (c v : Int) (W : World) : (binOp .neq 31 (.agg #[.int .i64 c, .int .i64 v]) (.agg #[.int .i64 c, .int .i64 v])).run Try.prog W = .ok (.bool false) W := by
  simp [go_sem]
attribute [local go_sem] fieldI0 fieldI1 fieldL0 neqI
/-- The numbers of the law. -/
theorem bands_law {s : Int} {co : List Int} (hs : s = 4 ∨ s = 8 ∨ s = 16) (hl : (co.length : Int) = s) (ha : co.all coB = true) : ∃ (m f : Nat) (d : Int) (aF sF : Nat → Int), (bnL s).length = m ∧ (bnNs s co).length = m ∧ m ≤ 2 ∧ s / 2 = (f : Int) ∧ 2 * f = co.length ∧ 1 ≤ d ∧ d ≤ 4 ∧
    aF 0 = s / 2 ∧ aF m = s ∧ (∀ j, j < m → (bnL s).getD j (0, 0) = (aF j, d) ∧ aF (j + 1) = aF j + d ∧ 0 ≤ aF j ∧ aF j ≤ 16) ∧
    sF 0 = 0 ∧ sF m = nmV (co.drop f) ∧ (∀ j, j < m → sF (j + 1) = sF j + (bnNs s co).getD j 0 ∧ 0 ≤ sF j ∧ sF j ≤ 268435456 ∧ 0 ≤ sF (j + 1) ∧ sF (j + 1) ≤ 268435456) := by
  have hd := bd_or s
  have hc := bc_or s
  have he := bn_end hs
  obtain ⟨f, hf⟩ : ∃ f : Nat, s / 2 = (f : Int) := ⟨(s / 2).toNat, by omega⟩
  have hsum := fun j hj => ns_sum hs co j hj
  have hb : ∀ j, j ≤ bC s → 0 ≤ ((bnNs s co).take j).sum ∧ ((bnNs s co).take j).sum ≤ 268435456 := fun j hj => by
    rw [hsum j hj]
    exact sum_small (all_sub ha (fun _ hx => List.mem_of_mem_drop (List.mem_of_mem_take hx))) (by rw [List.length_take, List.length_drop]; omega)
  refine ⟨bC s, f, (bD s : Int), fun j => s / 2 + (bD s : Int) * (j : Int), fun j => ((bnNs s co).take j).sum, bn_len hs, ns_len hs co, by omega, hf, by omega, by omega, by omega, by simp, he, fun j hj => ⟨bn_get hs hj, ?_, ?_, ?_⟩, by simp, ?_, fun j hj => ⟨?_, (hb j (by omega)).1, (hb j (by omega)).2, (hb (j + 1) (by omega)).1, (hb (j + 1) (by omega)).2⟩⟩
  · show s / 2 + (bD s : Int) * ((j + 1 : Nat) : Int) = s / 2 + (bD s : Int) * (j : Int) + (bD s : Int)
    rw [Int.natCast_add, Int.mul_add]; omega
  · have : 0 ≤ (bD s : Int) * (j : Int) := Int.mul_nonneg (by omega) (by omega)
    show 0 ≤ s / 2 + (bD s : Int) * (j : Int)
    omega
  · have : (bD s : Int) * (j : Int) ≤ (bD s : Int) * (bC s : Int) := Int.mul_le_mul_of_nonneg_left (by omega) (by omega)
    show s / 2 + (bD s : Int) * (j : Int) ≤ 16
    omega
  · show ((bnNs s co).take (bC s)).sum = _
    rw [List.take_of_length_le (by rw [ns_len hs]; exact Nat.le_refl _), ns_all hs hl, hf, Int.toNat_natCast]
    exact (nm_yes (by rw [List.length_drop]; omega) (co_top (all_drop ha f))).2
  · show ((bnNs s co).take (j + 1)).sum = ((bnNs s co).take j).sum + _
    rw [take_snoc _ _ (by rw [ns_len hs]; exact hj), List.sum_append]
    simp
/-- What the law keeps. -/
structure BW (w : World) (Nb Mb Bb Lb : Nat) (nc : Int) (un : Value) (ns : List Int) (mc mv bc : Int) (ub : Value) (bl : List B2) (lc lv : Int) (uc : Value) (co : List Int) (W : World) : Prop where
  n : Blk W Nb #[.int .i64 nc, un] 28
  nl : Sl .i64 W un ns
  m : Blk W Mb #[.int .i64 mc, .int .i64 mv] 31
  b : Blk W Bb #[.int .i64 bc, ub] 35
  bl : SlB W ub bl
  l : Blk W Lb #[.int .i64 lc, .int .i64 lv] 31
  co : Sl .i64 W uc co
  bel : Below w.heap.size w W
theorem BW.later {w W W' : World} {Nb Mb Bb Lb : Nat} {nc : Int} {un : Value} {ns : List Int} {mc mv bc : Int} {ub : Value} {bl : List B2} {lc lv : Int} {uc : Value} {co : List Int} (k : BW w Nb Mb Bb Lb nc un ns mc mv bc ub bl lc lv uc co W) (hb : Below W.heap.size W W') : BW w Nb Mb Bb Lb nc un ns mc mv bc ub bl lc lv uc co W' :=
  ⟨k.n.later hb, k.nl.later hb, k.m.later hb, k.b.later hb, k.bl.later hb, k.l.later hb, k.co.later hb, bthen k.bel hb⟩
set_option maxRecDepth 100000 in
set_option maxHeartbeats 8000000 in
theorem fnBands_calls (a0 : Option Addr) (cap : Nat) (bs : List Int) (w : World) (hsl : Sl .u8 w (.slice a0 bs.length cap) bs) (hbd : ∀ x ∈ bs, 0 ≤ x ∧ x ≤ 255)
    (hN : ∀ s v l W, Below w.heap.size w W → Sl .i64 W v l → Fits v → l.length ≤ 1048576 → Calls Try.prog 10 #[.int .i64 s, v] W fun e w' => ∃ u, e = .returned (.agg #[.int .i64 (bnC s l), u]) ∧ OwI W.heap.size w' u (bnV s l) ∧ Below W.heap.size W w')
    (hM : ∀ s v l W, Below w.heap.size w W → Sl .i64 W v l → Fits v → l.length ≤ 1048576 → Calls Try.prog 11 #[.int .i64 s, v] W fun e w' => e = .returned (.agg #[.int .i64 (mkC s l), .int .i64 (mkV s l)]) ∧ Below W.heap.size W w')
    (hB : ∀ s W, Below w.heap.size w W → Calls Try.prog 12 #[.int .i64 s] W fun e w' => ∃ u, e = .returned (.agg #[.int .i64 (bsC s), u]) ∧ OwB W.heap.size w' u (bsL s) ∧ Below W.heap.size W w')
    (hL : ∀ s W, Below w.heap.size w W → Calls Try.prog 13 #[.int .i64 s] W fun e w' => e = .returned (.agg #[.int .i64 (lcC s), .int .i64 (lcV s)]) ∧ Below W.heap.size W w') :
    Calls Try.prog 3 #[.slice a0 bs.length cap] w fun e w' => e = .returned (.bool true) ∧ Below w.heap.size w w' := by
  by_cases hbig : 1048576 < bs.length
  · have hb' : (1048576 : Int) < bs.length := by omega
    clear hsl hbd hN hM hB hL
    go_enter Try.func3, Try.ntmps3
    go_wp2
    go_ret
    exact ⟨rfl, Below.refl _ _⟩
  · have hb' : (bs.length : Int) ≤ 1048576 := by omega
    have H1 := hid (drawBandNorms_calls a0 cap bs w hsl hbd (by omega))
    have HN := hid hN
    have HM := hid hM
    have HB := hid hB
    have HL := hid hL
    clear hsl hbd hN hM hB hL
    go_enter Try.func3, Try.ntmps3
    go_wp2_with (first | (go_at_call 8; go_in) | fail)
    refine H1.out.mono ?_
    rintro e w1 ⟨s, v, co, rfl, ho, hlen, hb1⟩
    have HB1 := hid hb1
    have HCo := hid ho.sl
    have hfit := ho.fits
    obtain ⟨ac, cc, rfl, _⟩ := ho.sl
    clear hb1 H1 ho
    go_wp2_with fail
    refine (HN.out s _ co _ HB1.out HCo.out hfit (by omega)).mono ?_
    rintro e w2 ⟨u, rfl, ho, hb2⟩
    have hbq := bmore hb2 (.cells #[.int .i64 (bnC s co), u] 28)
    have HB2 := hid (bthen HB1.out hbq)
    have HCo2 := hid (HCo.out.later hbq)
    have HN2 := hid (Blk.new w2 #[.int .i64 (bnC s co), u] 28)
    have HNl2 := hid (ho.sl.later (bmore (Below.refl _ _) (.cells #[.int .i64 (bnC s co), u] 28)))
    obtain ⟨au, cu, rfl, _⟩ := ho.sl
    clear hb2 hbq HB1 ho HN HCo
    go_wp2_with fail
    refine (HM.out s _ co _ HB2.out HCo2.out hfit (by omega)).mono ?_
    rintro e w3 ⟨rfl, hb3⟩
    have hbq := bmore hb3 (.cells #[.int .i64 (mkC s co), .int .i64 (mkV s co)] 31)
    have HB3 := hid (bthen HB2.out hbq)
    have HCo3 := hid (HCo2.out.later hbq)
    have HN3 := hid (HN2.out.later hbq)
    have HNl3 := hid (HNl2.out.later hbq)
    have HM3 := hid (Blk.new w3 #[.int .i64 (mkC s co), .int .i64 (mkV s co)] 31)
    clear hb3 hbq HB2 HN2 HNl2 HCo2 HM
    go_wp2_with fail
    refine (HB.out s _ HB3.out).mono ?_
    rintro e w4 ⟨ub, rfl, ho, hb4⟩
    have hbq := bmore hb4 (.cells #[.int .i64 (bsC s), ub] 35)
    have HB4 := hid (bthen HB3.out hbq)
    have HCo4 := hid (HCo3.out.later hbq)
    have HN4 := hid (HN3.out.later hbq)
    have HNl4 := hid (HNl3.out.later hbq)
    have HM4 := hid (HM3.out.later hbq)
    have HBb4 := hid (Blk.new w4 #[.int .i64 (bsC s), ub] 35)
    have HBl4 := hid (ho.slb.later (bmore (Below.refl _ _) (.cells #[.int .i64 (bsC s), ub] 35)))
    obtain ⟨ab, cb, rfl, _⟩ := ho.slb
    clear hb4 hbq HB3 HN3 HNl3 HCo3 HM3 ho HB
    go_wp2_with fail
    refine (HL.out s _ HB4.out).mono ?_
    rintro e w5 ⟨rfl, hb5⟩
    have hbq := bmore hb5 (.cells #[.int .i64 (lcC s), .int .i64 (lcV s)] 31)
    have HK : Hid (BW w w2.heap.size w3.heap.size w4.heap.size w5.heap.size (bnC s co) (.slice au (bnV s co).length cu) (bnV s co) (mkC s co) (mkV s co) (bsC s) (.slice ab (bsL s).length cb) (bsL s) (lcC s) (lcV s) (.slice ac co.length cc) co (w5.alloc (.cells #[.int .i64 (lcC s), .int .i64 (lcV s)] 31))) :=
      ⟨HN4.out.later hbq, HNl4.out.later hbq, HM4.out.later hbq, HBb4.out.later hbq, HBl4.out.later hbq, Blk.new w5 _ _, HCo4.out.later hbq, bthen HB4.out hbq⟩
    clear hb5 hbq HB4 HN4 HNl4 HM4 HBb4 HBl4 HCo4 HL
    go_wp2_with fail
    generalize w5.alloc (.cells #[.int .i64 (lcC s), .int .i64 (lcV s)] 31) = w6 at *
    generalize w2.heap.size = Nb at *
    generalize w3.heap.size = Mb at *
    generalize w4.heap.size = Bb at *
    generalize w5.heap.size = Lb at *
    have HSn := hid (fun W (hW : Sl .i64 W (.slice ac co.length cc) co) => specBandNorms_calls s _ co W hW hfit (by omega))
    have HSm := hid (fun W (hW : Sl .i64 W (.slice ac co.length cc) co) => specMaskOf_calls s _ co W hW hfit (by omega))
    have HSs := hid (fun W => specSizeFault_calls s W)
    have HY := hid (@cf_yes s co)
    have hbc : bsC s = szF s := rfl
    have hlc : lcC s = szF s := rfl
    have hbn : bnC s co = cfC s co := rfl
    have HV : Hid (cfC s co = 0 → bnV s co = bnNs s co) := fun h => if_pos h
    have HB2 : Hid (szF s = 0 → bsL s = bnL s ∧ lcV s = s / 2) := fun h => ⟨if_pos h, if_pos h⟩
    rw [hbc, hlc, hbn] at HK
    rw [hbn] at HSn
    clear hbc hlc hbn
    generalize mkC s co = mc at *
    generalize mkV s co = mv at *
    generalize bnV s co = ns at *
    generalize bsL s = bl at *
    generalize lcV s = lv at *
    have Hz2 := hid (fun h : cfC s co = 0 => (show szF s = 0 from by unfold cfC at h; by_cases q : szF s = 0; exact q; rw [if_neg q] at h; exact h))
    generalize hnc : cfC s co = nc at *
    generalize hzc : szF s = zc at *
    clear hnc hzc
    have hKd0 := HK.out.later (Below.refl _ _).drew
    refine wp_region_noPanic ?_
    refine wp_region_held_drew (S := fun W => BW w Nb Mb Bb Lb nc (.slice au ns.length cu) ns mc mv zc (.slice ab bl.length cb) bl zc lv (.slice ac co.length cc) co W) (by kernel_rfl) ?_ (fun hHeld => ?_)
    · first | exact hK2 | exact hK1 | exact hHeld | exact hKd0
    (refine wpAnyH_take (i := 0) (v := ?_) rfl (by kernel_rfl) (by kernel_rfl) (by kernel_rfl) (fun _ _ _ h => h) (Or.inl ⟨by rfl, ?_⟩) hHeld ?_; rotate_left; (intro w hSw; (obtain ⟨n0, n1, _⟩ := hSw.n.two; obtain ⟨m0, m1, _⟩ := hSw.m.two; obtain ⟨b0, b1, _⟩ := hSw.b.two; obtain ⟨l0, l1, _⟩ := hSw.l.two; clear hSw); (go_simp <;> with_reducible rfl)); simp only [List.getElem_toArray, List.getElem_cons_zero, Act.put, List.setIfInBounds_toArray, List.set_cons_zero, List.set_cons_succ])
    (refine wpAnyH_take (i := 1) (v := ?_) rfl (by kernel_rfl) (by kernel_rfl) (by kernel_rfl) (fun _ _ _ h => h) (Or.inl ⟨by rfl, ?_⟩) hHeld ?_; rotate_left; (intro w hSw; (obtain ⟨n0, n1, _⟩ := hSw.n.two; obtain ⟨m0, m1, _⟩ := hSw.m.two; obtain ⟨b0, b1, _⟩ := hSw.b.two; obtain ⟨l0, l1, _⟩ := hSw.l.two; clear hSw); (go_simp <;> with_reducible rfl)); simp only [List.getElem_toArray, List.getElem_cons_zero, List.getElem_cons_succ, Act.put, List.setIfInBounds_toArray, List.set_cons_zero, List.set_cons_succ])
    (refine wpAnyH_take (i := 2) (v := ?_) rfl (by kernel_rfl) (by kernel_rfl) (by kernel_rfl) (fun _ _ _ h => h) (Or.inl ⟨by rfl, ?_⟩) hHeld ?_; rotate_left; (intro w hSw; (obtain ⟨n0, n1, _⟩ := hSw.n.two; obtain ⟨m0, m1, _⟩ := hSw.m.two; obtain ⟨b0, b1, _⟩ := hSw.b.two; obtain ⟨l0, l1, _⟩ := hSw.l.two; clear hSw); (go_simp <;> with_reducible rfl)); simp only [List.getElem_toArray, List.getElem_cons_zero, List.getElem_cons_succ, Act.put, List.setIfInBounds_toArray, List.set_cons_zero, List.set_cons_succ])
    (refine wpAnyH_take (i := 3) (v := ?_) rfl (by kernel_rfl) (by kernel_rfl) (by kernel_rfl) (fun _ _ _ h => h) (Or.inl ⟨by rfl, ?_⟩) hHeld ?_; rotate_left; (intro w hSw; (obtain ⟨n0, n1, _⟩ := hSw.n.two; obtain ⟨m0, m1, _⟩ := hSw.m.two; obtain ⟨b0, b1, _⟩ := hSw.b.two; obtain ⟨l0, l1, _⟩ := hSw.l.two; clear hSw); (go_simp <;> with_reducible rfl)); simp only [List.getElem_toArray, List.getElem_cons_zero, List.getElem_cons_succ, Act.put, List.setIfInBounds_toArray, List.set_cons_zero, List.set_cons_succ])
    (refine wpAnyH_ready (rs := [4]) (by kernel_rfl) (by simp) ?_; refine AllReadyH.cons rfl (fun K hK => ?_) AllReadyH.nil; go_simp; (refine (HSn.out _ hHeld.co).mono ?_; rintro e w9 ⟨u9, rfl, ho9, hb9⟩; obtain ⟨a9, c9, rfl, _⟩ := ho9.sl; have hK1 := hHeld.later hb9); refine hK.out _ _ ?_ (fun hHeld => ?_); (first | exact hK2 | exact hK1 | exact hHeld | exact hKd0); clear hK K; try dsimp only)
    (refine wpAnyH_take (i := 5) (v := ?_) rfl (by kernel_rfl) (by kernel_rfl) (by kernel_rfl) (fun _ _ _ h => h) (Or.inl ⟨by rfl, ?_⟩) hHeld ?_; rotate_left; (intro w hSw; (obtain ⟨n0, n1, _⟩ := hSw.n.two; obtain ⟨m0, m1, _⟩ := hSw.m.two; obtain ⟨b0, b1, _⟩ := hSw.b.two; obtain ⟨l0, l1, _⟩ := hSw.l.two; clear hSw); (go_simp <;> with_reducible rfl)); simp only [List.getElem_toArray, List.getElem_cons_zero, List.getElem_cons_succ, Act.put, List.setIfInBounds_toArray, List.set_cons_zero, List.set_cons_succ])
    (refine wpAnyH_take (i := 6) (v := ?_) rfl (by kernel_rfl) (by kernel_rfl) (by kernel_rfl) (fun _ _ _ h => h) (Or.inl ⟨by rfl, ?_⟩) hHeld ?_; rotate_left; (intro w hSw; (obtain ⟨n0, n1, _⟩ := hSw.n.two; obtain ⟨m0, m1, _⟩ := hSw.m.two; obtain ⟨b0, b1, _⟩ := hSw.b.two; obtain ⟨l0, l1, _⟩ := hSw.l.two; clear hSw); (go_simp <;> with_reducible rfl)); simp only [List.getElem_toArray, List.getElem_cons_zero, List.getElem_cons_succ, Act.put, List.setIfInBounds_toArray, List.set_cons_zero, List.set_cons_succ])
    (refine wpAnyH_take (i := 7) (v := ?_) rfl (by kernel_rfl) (by kernel_rfl) (by kernel_rfl) (fun _ _ _ h => h) (Or.inl ⟨by rfl, ?_⟩) hHeld ?_; rotate_left; (intro w hSw; (obtain ⟨n0, n1, _⟩ := hSw.n.two; obtain ⟨m0, m1, _⟩ := hSw.m.two; obtain ⟨b0, b1, _⟩ := hSw.b.two; obtain ⟨l0, l1, _⟩ := hSw.l.two; clear hSw); (go_simp <;> with_reducible rfl)); simp only [List.getElem_toArray, List.getElem_cons_zero, List.getElem_cons_succ, Act.put, List.setIfInBounds_toArray, List.set_cons_zero, List.set_cons_succ])
    first | (refine wpAnyH_take (i := 8) (v := ?_) rfl (by kernel_rfl) (by kernel_rfl) (by kernel_rfl) (fun _ _ _ h => h) (Or.inl ⟨by rfl, ?_⟩) hHeld ?_; rotate_left; (intro w hSw; (obtain ⟨n0, n1, _⟩ := hSw.n.two; obtain ⟨m0, m1, _⟩ := hSw.m.two; obtain ⟨b0, b1, _⟩ := hSw.b.two; obtain ⟨l0, l1, _⟩ := hSw.l.two; clear hSw); (go_simp <;> with_reducible rfl)); simp only [List.getElem_toArray, List.getElem_cons_zero, List.getElem_cons_succ, Act.put, List.setIfInBounds_toArray, List.set_cons_zero, List.set_cons_succ]) | (refine wpAnyH_take (i := 8) (v := undef) rfl (by kernel_rfl) (by kernel_rfl) (by kernel_rfl) (fun _ _ _ h => h) (Or.inr ⟨by rfl, rfl⟩) hHeld ?_; simp only [List.getElem_toArray, List.getElem_cons_zero, List.getElem_cons_succ, Act.put, List.setIfInBounds_toArray, List.set_cons_zero, List.set_cons_succ])
    first | (refine wpAnyH_take (i := 9) (v := ?_) rfl (by kernel_rfl) (by kernel_rfl) (by kernel_rfl) (fun _ _ _ h => h) (Or.inl ⟨by rfl, ?_⟩) hHeld ?_; rotate_left; (intro w hSw; (obtain ⟨n0, n1, _⟩ := hSw.n.two; obtain ⟨m0, m1, _⟩ := hSw.m.two; obtain ⟨b0, b1, _⟩ := hSw.b.two; obtain ⟨l0, l1, _⟩ := hSw.l.two; clear hSw); (go_simp <;> with_reducible rfl)); simp only [List.getElem_toArray, List.getElem_cons_zero, List.getElem_cons_succ, Act.put, List.setIfInBounds_toArray, List.set_cons_zero, List.set_cons_succ]) | (refine wpAnyH_take (i := 9) (v := undef) rfl (by kernel_rfl) (by kernel_rfl) (by kernel_rfl) (fun _ _ _ h => h) (Or.inr ⟨by rfl, rfl⟩) hHeld ?_; simp only [List.getElem_toArray, List.getElem_cons_zero, List.getElem_cons_succ, Act.put, List.setIfInBounds_toArray, List.set_cons_zero, List.set_cons_succ])
    first | (refine wpAnyH_take (i := 10) (v := ?_) rfl (by kernel_rfl) (by kernel_rfl) (by kernel_rfl) (fun _ _ _ h => h) (Or.inl ⟨by rfl, ?_⟩) hHeld ?_; rotate_left; (intro w hSw; (obtain ⟨n0, n1, _⟩ := hSw.n.two; obtain ⟨m0, m1, _⟩ := hSw.m.two; obtain ⟨b0, b1, _⟩ := hSw.b.two; obtain ⟨l0, l1, _⟩ := hSw.l.two; clear hSw); (go_simp <;> with_reducible rfl)); simp only [List.getElem_toArray, List.getElem_cons_zero, List.getElem_cons_succ, Act.put, List.setIfInBounds_toArray, List.set_cons_zero, List.set_cons_succ]) | (refine wpAnyH_take (i := 10) (v := undef) rfl (by kernel_rfl) (by kernel_rfl) (by kernel_rfl) (fun _ _ _ h => h) (Or.inr ⟨by rfl, rfl⟩) hHeld ?_; simp only [List.getElem_toArray, List.getElem_cons_zero, List.getElem_cons_succ, Act.put, List.setIfInBounds_toArray, List.set_cons_zero, List.set_cons_succ])
    first | (refine wpAnyH_take (i := 11) (v := undef) rfl (by kernel_rfl) (by kernel_rfl) (by kernel_rfl) (fun _ _ _ h => h) (Or.inr ⟨by rfl, rfl⟩) hHeld ?_; simp only [List.getElem_toArray, List.getElem_cons_zero, List.getElem_cons_succ, Act.put, List.setIfInBounds_toArray, List.set_cons_zero, List.set_cons_succ]) | (refine wpAnyH_ready (rs := [11]) (by kernel_rfl) (by simp) ?_; refine AllReadyH.cons rfl (fun K hK => ?_) AllReadyH.nil; go_simp; (refine (HSm.out _ hHeld.co).mono ?_; rintro e w10 ⟨rfl, hb10⟩; have hK2 := hHeld.later hb10); refine hK.out _ _ ?_ (fun hHeld => ?_); (first | exact hK2 | exact hK1 | exact hHeld | exact hKd0); clear hK K; try dsimp only)
    first | (refine wpAnyH_take (i := 12) (v := ?_) rfl (by kernel_rfl) (by kernel_rfl) (by kernel_rfl) (fun _ _ _ h => h) (Or.inl ⟨by rfl, ?_⟩) hHeld ?_; rotate_left; (intro w hSw; (obtain ⟨n0, n1, _⟩ := hSw.n.two; obtain ⟨m0, m1, _⟩ := hSw.m.two; obtain ⟨b0, b1, _⟩ := hSw.b.two; obtain ⟨l0, l1, _⟩ := hSw.l.two; clear hSw); (go_simp <;> with_reducible rfl)); simp only [List.getElem_toArray, List.getElem_cons_zero, List.getElem_cons_succ, Act.put, List.setIfInBounds_toArray, List.set_cons_zero, List.set_cons_succ]) | (refine wpAnyH_take (i := 12) (v := undef) rfl (by kernel_rfl) (by kernel_rfl) (by kernel_rfl) (fun _ _ _ h => h) (Or.inr ⟨by rfl, rfl⟩) hHeld ?_; simp only [List.getElem_toArray, List.getElem_cons_zero, List.getElem_cons_succ, Act.put, List.setIfInBounds_toArray, List.set_cons_zero, List.set_cons_succ])
    (refine wpAnyH_take (i := 13) (v := ?_) rfl (by kernel_rfl) (by kernel_rfl) (by kernel_rfl) (fun _ _ _ h => h) (Or.inl ⟨by rfl, ?_⟩) hHeld ?_; rotate_left; (intro w hSw; (obtain ⟨n0, n1, _⟩ := hSw.n.two; obtain ⟨m0, m1, _⟩ := hSw.m.two; obtain ⟨b0, b1, _⟩ := hSw.b.two; obtain ⟨l0, l1, _⟩ := hSw.l.two; clear hSw); (go_simp <;> with_reducible rfl)); simp only [List.getElem_toArray, List.getElem_cons_zero, List.getElem_cons_succ, Act.put, List.setIfInBounds_toArray, List.set_cons_zero, List.set_cons_succ])
    (refine wpAnyH_take (i := 14) (v := ?_) rfl (by kernel_rfl) (by kernel_rfl) (by kernel_rfl) (fun _ _ _ h => h) (Or.inl ⟨by rfl, ?_⟩) hHeld ?_; rotate_left; (intro w hSw; (obtain ⟨n0, n1, _⟩ := hSw.n.two; obtain ⟨m0, m1, _⟩ := hSw.m.two; obtain ⟨b0, b1, _⟩ := hSw.b.two; obtain ⟨l0, l1, _⟩ := hSw.l.two; clear hSw); (go_simp <;> with_reducible rfl)); simp only [List.getElem_toArray, List.getElem_cons_zero, List.getElem_cons_succ, Act.put, List.setIfInBounds_toArray, List.set_cons_zero, List.set_cons_succ])
    first | (refine wpAnyH_take (i := 15) (v := ?_) rfl (by kernel_rfl) (by kernel_rfl) (by kernel_rfl) (fun _ _ _ h => h) (Or.inl ⟨by rfl, ?_⟩) hHeld ?_; rotate_left; (intro w hSw; (obtain ⟨n0, n1, _⟩ := hSw.n.two; obtain ⟨m0, m1, _⟩ := hSw.m.two; obtain ⟨b0, b1, _⟩ := hSw.b.two; obtain ⟨l0, l1, _⟩ := hSw.l.two; clear hSw); (go_simp <;> with_reducible rfl)); simp only [List.getElem_toArray, List.getElem_cons_zero, List.getElem_cons_succ, Act.put, List.setIfInBounds_toArray, List.set_cons_zero, List.set_cons_succ]) | (refine wpAnyH_take (i := 15) (v := undef) rfl (by kernel_rfl) (by kernel_rfl) (by kernel_rfl) (fun _ _ _ h => h) (Or.inr ⟨by rfl, rfl⟩) hHeld ?_; simp only [List.getElem_toArray, List.getElem_cons_zero, List.getElem_cons_succ, Act.put, List.setIfInBounds_toArray, List.set_cons_zero, List.set_cons_succ])
    first | (refine wpAnyH_take (i := 16) (v := ?_) rfl (by kernel_rfl) (by kernel_rfl) (by kernel_rfl) (fun _ _ _ h => h) (Or.inl ⟨by rfl, ?_⟩) hHeld ?_; rotate_left; (intro w hSw; (obtain ⟨n0, n1, _⟩ := hSw.n.two; obtain ⟨m0, m1, _⟩ := hSw.m.two; obtain ⟨b0, b1, _⟩ := hSw.b.two; obtain ⟨l0, l1, _⟩ := hSw.l.two; clear hSw); (go_simp <;> with_reducible rfl)); simp only [List.getElem_toArray, List.getElem_cons_zero, List.getElem_cons_succ, Act.put, List.setIfInBounds_toArray, List.set_cons_zero, List.set_cons_succ]) | (refine wpAnyH_take (i := 16) (v := undef) rfl (by kernel_rfl) (by kernel_rfl) (by kernel_rfl) (fun _ _ _ h => h) (Or.inr ⟨by rfl, rfl⟩) hHeld ?_; simp only [List.getElem_toArray, List.getElem_cons_zero, List.getElem_cons_succ, Act.put, List.setIfInBounds_toArray, List.set_cons_zero, List.set_cons_succ])
    first | (refine wpAnyH_take (i := 17) (v := ?_) rfl (by kernel_rfl) (by kernel_rfl) (by kernel_rfl) (fun _ _ _ h => h) (Or.inl ⟨by rfl, ?_⟩) hHeld ?_; rotate_left; (intro w hSw; (obtain ⟨n0, n1, _⟩ := hSw.n.two; obtain ⟨m0, m1, _⟩ := hSw.m.two; obtain ⟨b0, b1, _⟩ := hSw.b.two; obtain ⟨l0, l1, _⟩ := hSw.l.two; clear hSw); (go_simp <;> with_reducible rfl)); simp only [List.getElem_toArray, List.getElem_cons_zero, List.getElem_cons_succ, Act.put, List.setIfInBounds_toArray, List.set_cons_zero, List.set_cons_succ]) | (refine wpAnyH_take (i := 17) (v := undef) rfl (by kernel_rfl) (by kernel_rfl) (by kernel_rfl) (fun _ _ _ h => h) (Or.inr ⟨by rfl, rfl⟩) hHeld ?_; simp only [List.getElem_toArray, List.getElem_cons_zero, List.getElem_cons_succ, Act.put, List.setIfInBounds_toArray, List.set_cons_zero, List.set_cons_succ])
    first | (refine wpAnyH_take (i := 18) (v := undef) rfl (by kernel_rfl) (by kernel_rfl) (by kernel_rfl) (fun _ _ _ h => h) (Or.inr ⟨by rfl, rfl⟩) hHeld ?_; simp only [List.getElem_toArray, List.getElem_cons_zero, List.getElem_cons_succ, Act.put, List.setIfInBounds_toArray, List.set_cons_zero, List.set_cons_succ]) | (refine wpAnyH_ready (rs := [18]) (by kernel_rfl) (by simp) ?_; refine AllReadyH.cons rfl (fun K hK => ?_) AllReadyH.nil; go_simp; (refine (HSs.out _).mono ?_; rintro e w11 ⟨rfl, rfl⟩); refine hK.out _ _ ?_ (fun hHeld => ?_); (first | exact hK2 | exact hK1 | exact hHeld | exact hKd0); clear hK K; try dsimp only)
    first | (refine wpAnyH_take (i := 19) (v := ?_) rfl (by kernel_rfl) (by kernel_rfl) (by kernel_rfl) (fun _ _ _ h => h) (Or.inl ⟨by rfl, ?_⟩) hHeld ?_; rotate_left; (intro w hSw; (obtain ⟨n0, n1, _⟩ := hSw.n.two; obtain ⟨m0, m1, _⟩ := hSw.m.two; obtain ⟨b0, b1, _⟩ := hSw.b.two; obtain ⟨l0, l1, _⟩ := hSw.l.two; clear hSw); (go_simp <;> with_reducible rfl)); simp only [List.getElem_toArray, List.getElem_cons_zero, List.getElem_cons_succ, Act.put, List.setIfInBounds_toArray, List.set_cons_zero, List.set_cons_succ]) | (refine wpAnyH_take (i := 19) (v := undef) rfl (by kernel_rfl) (by kernel_rfl) (by kernel_rfl) (fun _ _ _ h => h) (Or.inr ⟨by rfl, rfl⟩) hHeld ?_; simp only [List.getElem_toArray, List.getElem_cons_zero, List.getElem_cons_succ, Act.put, List.setIfInBounds_toArray, List.set_cons_zero, List.set_cons_succ])
    (refine wpAnyH_take (i := 20) (v := ?_) rfl (by kernel_rfl) (by kernel_rfl) (by kernel_rfl) (fun _ _ _ h => h) (Or.inl ⟨by rfl, ?_⟩) hHeld ?_; rotate_left; (intro w hSw; (obtain ⟨n0, n1, _⟩ := hSw.n.two; obtain ⟨m0, m1, _⟩ := hSw.m.two; obtain ⟨b0, b1, _⟩ := hSw.b.two; obtain ⟨l0, l1, _⟩ := hSw.l.two; clear hSw); (go_simp <;> with_reducible rfl)); simp only [List.getElem_toArray, List.getElem_cons_zero, List.getElem_cons_succ, Act.put, List.setIfInBounds_toArray, List.set_cons_zero, List.set_cons_succ])
    (refine wpAnyH_take (i := 21) (v := ?_) rfl (by kernel_rfl) (by kernel_rfl) (by kernel_rfl) (fun _ _ _ h => h) (Or.inl ⟨by rfl, ?_⟩) hHeld ?_; rotate_left; (intro w hSw; (obtain ⟨n0, n1, _⟩ := hSw.n.two; obtain ⟨m0, m1, _⟩ := hSw.m.two; obtain ⟨b0, b1, _⟩ := hSw.b.two; obtain ⟨l0, l1, _⟩ := hSw.l.two; clear hSw); (go_simp <;> with_reducible rfl)); simp only [List.getElem_toArray, List.getElem_cons_zero, List.getElem_cons_succ, Act.put, List.setIfInBounds_toArray, List.set_cons_zero, List.set_cons_succ])
    first | (refine wpAnyH_take (i := 22) (v := ?_) rfl (by kernel_rfl) (by kernel_rfl) (by kernel_rfl) (fun _ _ _ h => h) (Or.inl ⟨by rfl, ?_⟩) hHeld ?_; rotate_left; (intro w hSw; (obtain ⟨n0, n1, _⟩ := hSw.n.two; obtain ⟨m0, m1, _⟩ := hSw.m.two; obtain ⟨b0, b1, _⟩ := hSw.b.two; obtain ⟨l0, l1, _⟩ := hSw.l.two; clear hSw); (go_simp <;> with_reducible rfl)); simp only [List.getElem_toArray, List.getElem_cons_zero, List.getElem_cons_succ, Act.put, List.setIfInBounds_toArray, List.set_cons_zero, List.set_cons_succ]) | (refine wpAnyH_take (i := 22) (v := undef) rfl (by kernel_rfl) (by kernel_rfl) (by kernel_rfl) (fun _ _ _ h => h) (Or.inr ⟨by rfl, rfl⟩) hHeld ?_; simp only [List.getElem_toArray, List.getElem_cons_zero, List.getElem_cons_succ, Act.put, List.setIfInBounds_toArray, List.set_cons_zero, List.set_cons_succ])
    first | (refine wpAnyH_take (i := 23) (v := ?_) rfl (by kernel_rfl) (by kernel_rfl) (by kernel_rfl) (fun _ _ _ h => h) (Or.inl ⟨by rfl, ?_⟩) hHeld ?_; rotate_left; (intro w hSw; (obtain ⟨n0, n1, _⟩ := hSw.n.two; obtain ⟨m0, m1, _⟩ := hSw.m.two; obtain ⟨b0, b1, _⟩ := hSw.b.two; obtain ⟨l0, l1, _⟩ := hSw.l.two; clear hSw); (go_simp <;> with_reducible rfl)); simp only [List.getElem_toArray, List.getElem_cons_zero, List.getElem_cons_succ, Act.put, List.setIfInBounds_toArray, List.set_cons_zero, List.set_cons_succ]) | (refine wpAnyH_take (i := 23) (v := undef) rfl (by kernel_rfl) (by kernel_rfl) (by kernel_rfl) (fun _ _ _ h => h) (Or.inr ⟨by rfl, rfl⟩) hHeld ?_; simp only [List.getElem_toArray, List.getElem_cons_zero, List.getElem_cons_succ, Act.put, List.setIfInBounds_toArray, List.set_cons_zero, List.set_cons_succ])
    first | (refine wpAnyH_take (i := 24) (v := ?_) rfl (by kernel_rfl) (by kernel_rfl) (by kernel_rfl) (fun _ _ _ h => h) (Or.inl ⟨by rfl, ?_⟩) hHeld ?_; rotate_left; (intro w hSw; (obtain ⟨n0, n1, _⟩ := hSw.n.two; obtain ⟨m0, m1, _⟩ := hSw.m.two; obtain ⟨b0, b1, _⟩ := hSw.b.two; obtain ⟨l0, l1, _⟩ := hSw.l.two; clear hSw); (go_simp <;> with_reducible rfl)); simp only [List.getElem_toArray, List.getElem_cons_zero, List.getElem_cons_succ, Act.put, List.setIfInBounds_toArray, List.set_cons_zero, List.set_cons_succ]) | (refine wpAnyH_take (i := 24) (v := undef) rfl (by kernel_rfl) (by kernel_rfl) (by kernel_rfl) (fun _ _ _ h => h) (Or.inr ⟨by rfl, rfl⟩) hHeld ?_; simp only [List.getElem_toArray, List.getElem_cons_zero, List.getElem_cons_succ, Act.put, List.setIfInBounds_toArray, List.set_cons_zero, List.set_cons_succ])
    first | (refine wpAnyH_take (i := 25) (v := ?_) rfl (by kernel_rfl) (by kernel_rfl) (by kernel_rfl) (fun _ _ _ h => h) (Or.inl ⟨by rfl, ?_⟩) hHeld ?_; rotate_left; (intro w hSw; (obtain ⟨n0, n1, _⟩ := hSw.n.two; obtain ⟨m0, m1, _⟩ := hSw.m.two; obtain ⟨b0, b1, _⟩ := hSw.b.two; obtain ⟨l0, l1, _⟩ := hSw.l.two; clear hSw); (go_simp <;> with_reducible rfl)); simp only [List.getElem_toArray, List.getElem_cons_zero, List.getElem_cons_succ, Act.put, List.setIfInBounds_toArray, List.set_cons_zero, List.set_cons_succ]) | (refine wpAnyH_take (i := 25) (v := undef) rfl (by kernel_rfl) (by kernel_rfl) (by kernel_rfl) (fun _ _ _ h => h) (Or.inr ⟨by rfl, rfl⟩) hHeld ?_; simp only [List.getElem_toArray, List.getElem_cons_zero, List.getElem_cons_succ, Act.put, List.setIfInBounds_toArray, List.set_cons_zero, List.set_cons_succ])
    first | (refine wpAnyH_take (i := 26) (v := ?_) rfl (by kernel_rfl) (by kernel_rfl) (by kernel_rfl) (fun _ _ _ h => h) (Or.inl ⟨by rfl, ?_⟩) hHeld ?_; rotate_left; (intro w hSw; (obtain ⟨n0, n1, _⟩ := hSw.n.two; obtain ⟨m0, m1, _⟩ := hSw.m.two; obtain ⟨b0, b1, _⟩ := hSw.b.two; obtain ⟨l0, l1, _⟩ := hSw.l.two; clear hSw); (go_simp <;> with_reducible rfl)); simp only [List.getElem_toArray, List.getElem_cons_zero, List.getElem_cons_succ, Act.put, List.setIfInBounds_toArray, List.set_cons_zero, List.set_cons_succ]) | (refine wpAnyH_take (i := 26) (v := undef) rfl (by kernel_rfl) (by kernel_rfl) (by kernel_rfl) (fun _ _ _ h => h) (Or.inr ⟨by rfl, rfl⟩) hHeld ?_; simp only [List.getElem_toArray, List.getElem_cons_zero, List.getElem_cons_succ, Act.put, List.setIfInBounds_toArray, List.set_cons_zero, List.set_cons_succ])
    (refine wpAnyH_take (i := 27) (v := ?_) rfl (by kernel_rfl) (by kernel_rfl) (by kernel_rfl) (fun _ _ _ h => h) (Or.inl ⟨by rfl, ?_⟩) hHeld ?_; rotate_left; (intro w hSw; (obtain ⟨n0, n1, _⟩ := hSw.n.two; obtain ⟨m0, m1, _⟩ := hSw.m.two; obtain ⟨b0, b1, _⟩ := hSw.b.two; obtain ⟨l0, l1, _⟩ := hSw.l.two; clear hSw); (go_simp <;> with_reducible rfl)); simp only [List.getElem_toArray, List.getElem_cons_zero, List.getElem_cons_succ, Act.put, List.setIfInBounds_toArray, List.set_cons_zero, List.set_cons_succ])
    refine wpAnyH_done (by kernel_rfl) ?_ _
    refine NoPanic.normal ?_
    have HK9 := hid hHeld
    clear hHeld HK hKd0 HSn HSm HSs
    obtain ⟨n0, n1, _⟩ := HK9.out.n.two
    by_cases hz : nc = 0
    · subst hz
      obtain ⟨hs, hl, ha⟩ := HY.out rfl
      have hzc := Hz2.out rfl
      subst hzc
      obtain ⟨e1, e2⟩ := HB2.out rfl
      have e3 := HV.out rfl
      subst e1
      subst e2
      subst e3
      obtain ⟨m, f, d, aF, sF, hm1, hm2, hm3, hf, hf2, hd1, hd4, ha0, ham, haj, hs0, hsm, hsj⟩ := bands_law hs hl ha
      have kw2 : ((f : Int) * 2 != s) = false := by simp; omega
      have HNo := hid (fun v W (hW : Sl .i64 W v (co.drop f)) => implNormOf_calls v (co.drop f) W hW)
      have HAj := hid haj
      have HSj := hid hsj
      have Ha0 : Hid (aF 0 = (f : Int)) := by show _ = _; rw [ha0, hf]
      have Hs0 := hid hs0
      have hfs : (f : Int) ≤ 8 := by omega
      have hf1 : 1 ≤ f := by omega
      rw [hf] at HK9
      have hcn : co ≠ [] := by intro e; rw [e] at hl; simp at hl; omega
      obtain ⟨a', c', hv, hc⟩ := HK9.out.co
      cases hv
      obtain ⟨bC0, oC0, rfl, _, _⟩ := hc hcn
      clear hc hcn
      clear HY HV HB2 Hz2 hs hl ha haj hsj ha0 hs0 hf
      obtain ⟨l0, l1, _⟩ := HK9.out.l.two
      have Hf2 := hid hf2
      generalize bnL s = bl at *
      generalize bnNs s co = ns at *
      go_wp2_with fail
      clear l0 l1 n0 n1 kw2
      have hmI : (bl.length : Int) = (m : Int) := by omega
      go_loopw [9, 11] (fun t i wr => ∃ j : Nat, j ≤ m ∧ i = .int .i64 (j : Int) ∧ t = .int .i64 (aF j) ∧ Hid (BW w Nb Mb Bb Lb 0 (.slice au ns.length cu) ns mc mv 0 (.slice ab bl.length cb) bl 0 (f : Int) (.slice (some ⟨bC0, oC0, none⟩) co.length cc) co wr)) (fun _ i _ => m - (intOf i).toNat)
      case atStart => exact ⟨0, Nat.zero_le _, rfl, by rw [Ha0.out], HK9.out⟩
      case round =>
        obtain ⟨j, hj, rfl, rfl, hK⟩ := hrel
        clear HK9
        obtain ⟨b0, b1, _⟩ := hK.out.b.two
        have hlt_b := hK.out.b.lt
        by_cases hlt : j < m
        · obtain ⟨g1, g2, g3, g4⟩ := HAj.out j hlt
          have hne : bl ≠ [] := by intro e; rw [e] at hm1; simp at hm1; omega
          obtain ⟨ab', cb', hv, hc⟩ := hK.out.bl
          cases hv
          obtain ⟨b, off, rfl, hbl, hcell⟩ := hc hne
          obtain ⟨c1, c2⟩ := hcell j (by omega)
          rw [g1] at c1 c2
          dsimp only at c1 c2
          have hjI : (j : Int) < (bl.length : Int) := by omega
          have hd1' : ¬ d < 1 := by omega
          have hd4' : ¬ 4 < d := by omega
          have H2 := hid g2
          clear hc hcell hne g1 g2 HAj HSj HNo
          generalize aF j = x at *
          go_wp2
          go_roundw
          case rel => exact ⟨j + 1, by omega, by go_num, by rw [H2.out], hK⟩
          case measure => simp [intOf]; omega
        · obtain rfl : j = m := by omega
          clear HAj
          rw [ham]
          have hnI : (ns.length : Int) = (j : Int) := by omega
          go_wp2_with fail
          clear b0 b1 hlt_b
          go_loopw [10, 12] (fun t i wr => ∃ k : Nat, k ≤ j ∧ i = .int .i64 (k : Int) ∧ t = .int .i64 (sF k) ∧ Hid (BW w Nb Mb Bb Lb 0 (.slice au ns.length cu) ns mc mv 0 (.slice ab bl.length cb) bl 0 (f : Int) (.slice (some ⟨bC0, oC0, none⟩) co.length cc) co wr)) (fun _ i _ => j - (intOf i).toNat)
          case atStart => exact ⟨0, Nat.zero_le _, rfl, by rw [Hs0.out], hK⟩
          case round =>
            obtain ⟨k, hk, rfl, rfl, hK2⟩ := hrel
            clear hK
            obtain ⟨n0, n1, _⟩ := hK2.out.n.two
            have hlt_n := hK2.out.n.lt
            by_cases hltk : k < j
            · obtain ⟨g1, g2, g3, g4, g5⟩ := HSj.out k hltk
              have hne : ns ≠ [] := by intro e; rw [e] at hm2; simp at hm2; omega
              obtain ⟨au', cu', hv, hc⟩ := hK2.out.nl
              cases hv
              obtain ⟨b, off, rfl, hbl, hcell⟩ := hc hne
              have c1 := hcell k (by omega)
              have hkI : (k : Int) < (ns.length : Int) := by omega
              have H2 := hid g1
              rw [g1] at g4 g5
              clear hc hcell hne g1 HSj HNo
              generalize sF k = x at *
              generalize ns.getD k 0 = y at *
              go_wp2
              go_roundw
              case rel => exact ⟨k + 1, by omega, by go_num, by rw [H2.out], hK2⟩
              case measure => simp [intOf]; omega
            · obtain rfl : k = j := by omega
              clear HSj
              rw [hsm]
              obtain ⟨b0, b1, _⟩ := hK2.out.b.two
              obtain ⟨l0, l1, _⟩ := hK2.out.l.two
              have hfit' : co.length ≤ cc := hfit
              have hfl : (f : Int) ≤ (co.length : Int) := by have := Hf2.out; omega
              have hflt : f < cc := by have := Hf2.out; omega
              have HSl := hid (fun c2 => sl_part (c2 := c2) (f := f) (m := co.length - f) hK2.out.co (by have := Hf2.out; omega) (by have := Hf2.out; omega))
              rw [show (co.drop f).take (co.length - f) = co.drop f from List.take_of_length_le (by rw [List.length_drop]; exact Nat.le_refl _)] at HSl
              go_wp2_with fail
              refine (HNo.out _ _ (HSl.out _)).mono ?_
              rintro e w20 ⟨rfl, hb20⟩
              have HF := hid (bthen hK2.out.bel hb20)
              clear hb20 hK2 n0 n1 b0 b1 l0 l1 hlt_n
              go_wp2
              go_ret
              exact ⟨rfl, HF.out⟩
    · clear HY HV HB2 Hz2
      go_wp2
      go_ret
      exact ⟨rfl, HK9.out.bel⟩
end Go.Proofs.Ytodfkicmmcfkaaa.BanW
