/- The program's seam, turned back by a way that is handed in: both sides of it are told anew. Conditions: the table of turns, a right size, lists of half of it, numbers within MaxWide (bounds: not below 0). -/
import Derived.Test.YtbakmphopgkpmaaDoorLbI
import Derived.Test.YtbakmphopgkpmaaDoorTeB
import Derived.Test.YtbakmphopgkpmaaDoorHvI
import Derived.Test.YtbakmphopgkpmaaDoorHalS
import Derived.Test.YtbakmphopgkpmaaDoorGb
import Derived.Test.YtbakmphopgkpmaaDoorLcI
namespace Go.Proofs.YtbakmphopgkpmaaDoor.LdI
open Go.ChangeShapes Go.WideShapes Go.ChangeAt Go.RowKit Go.Proofs.YtbakmphopgkpmaaDoor.Num Go.Proofs.YtbakmphopgkpmaaDoor.Sli Go.Proofs.YtbakmphopgkpmaaDoor.App Go.Proofs.YtbakmphopgkpmaaDoor.Samp Go.Proofs.YtbakmphopgkpmaaDoor.Blk Go.Proofs.YtbakmphopgkpmaaDoor.TurM Go.Proofs.YtbakmphopgkpmaaDoor.HalM Go.Proofs.YtbakmphopgkpmaaDoor.LapM Go.Proofs.YtbakmphopgkpmaaDoor.LapN Go.Proofs.YtbakmphopgkpmaaDoor.IntL Go.Proofs.YtbakmphopgkpmaaDoor.IntA Go.Proofs.YtbakmphopgkpmaaDoor.TurI Go.Proofs.YtbakmphopgkpmaaDoor.WayM Go.Proofs.YtbakmphopgkpmaaDoor.WayJ Go.Proofs.YtbakmphopgkpmaaDoor.Par Go.Proofs.YtbakmphopgkpmaaDoor.BkI Go.Proofs.YtbakmphopgkpmaaDoor.HalS Go.Proofs.YtbakmphopgkpmaaDoor.LaI Go.Proofs.YtbakmphopgkpmaaDoor.LbI
open Go.Proofs.YtbakmphopgkpmaaDoor.HvI (mx mx_len mx_zero mx_end mx_get mx_set)
open Go.Proofs.YtbakmphopgkpmaaDoor.LcI (sx sx_len sx_zero sx_end sx_get sx_set)
set_option maxHeartbeats 4000000 in
theorem seamBack_calls (kd : Bool) (hkd : has kd) (wv : Value) (s : Int) (vl vf : Value) (l f : List Int) (w : World) (hz : szF s = 0) (hl : Sl .i64 w vl l) (hf : Sl .i64 w vf f) (nl : l.length = hN s) (nf : f.length = hN s) (ll : wlim kd 137438953472 l) (lf : wlim kd 137438953472 f) (hT : Tab w) (hwv : WayV kd w wv) :
    Calls Tryd.prog 116 #[.int .i64 s, vl, vf, .func (.func 50) #[wv] #[]] w fun e w' => ∃ ga ca gb cb, e = .returned (.tuple #[.slice (some ⟨ga, 0, none⟩) (hN s : Nat) ca, .slice (some ⟨gb, 0, none⟩) (hN s : Nat) cb]) ∧ HK w (hN s) ga ca gb cb (smA (wF kd s.toNat) (hN s) l f) (smB (wF kd s.toNat) (hN s) l f) w' := by
  obtain ⟨_, e1, e2, e3, e4, e5⟩ := sz_nat hz
  have hbd : 4 ≤ s ∧ s ≤ 16 := by omega
  have hm8 : hN s ≤ 8 ∧ 2 ≤ hN s := by omega
  have HM := hid (fun W => middle_calls s W hz)
  have HTk := hid (fun k (hk : k < hN s) => turn_at hz hk)
  rw [e1] at HTk
  have hnl : l ≠ [] := by intro e; rw [e] at nl; simp at nl; omega
  have hnf : f ≠ [] := by intro e; rw [e] at nf; simp at nf; omega
  have HC1 := hid (fun W (q : Sl .i64 W vl l) => clone_calls vl l W q hnl (by omega))
  have HC2 := hid (fun W (q : Sl .i64 W vf f) => clone_calls vf f W q hnf (by omega))
  rw [nl] at HC1
  rw [nf] at HC2
  have H1 := hid hl
  have H2 := hid hf
  have HT := hid hT
  have HWY := hid hwv
  have HL1 := hid ll
  have HL2 := hid lf
  have HP := hid pairOf_calls
  obtain ⟨a1, cap1, rfl, -⟩ := hl
  obtain ⟨a2, cap2, rfl, -⟩ := hf
  have HA : Hid (∀ k, k < hN s → (fun j => (wF kd s.toNat (hN s - 1 - j) (l.getD j 0) (f.getD (hN s - 1 - j) 0)).1) (hN s - 1 - k) = wA kd (pV s (k : Int)) (uV s (k : Int)) (l.getD (hN s - 1 - k) 0) (f.getD k 0)) := by
    intro k hk
    show (wF kd s.toNat (hN s - 1 - (hN s - 1 - k)) (l.getD (hN s - 1 - k) 0) (f.getD (hN s - 1 - (hN s - 1 - k)) 0)).1 = _
    rw [show hN s - 1 - (hN s - 1 - k) = k by omega]
    show wA kd (pV (s.toNat : Int) (k : Int)) (uV (s.toNat : Int) (k : Int)) _ _ = _
    rw [e1]
  have HB : Hid (∀ k, k < hN s → (fun i => (wF kd s.toNat i (l.getD (hN s - 1 - i) 0) (f.getD i 0)).2) k = wB kd (pV s (k : Int)) (uV s (k : Int)) (l.getD (hN s - 1 - k) 0) (f.getD k 0)) := by
    intro k hk
    show wB kd (pV (s.toNat : Int) (k : Int)) (uV (s.toNat : Int) (k : Int)) _ _ = _
    rw [e1]
  have HEA : Hid (mkL (hN s) (fun j => (wF kd s.toNat (hN s - 1 - j) (l.getD j 0) (f.getD (hN s - 1 - j) 0)).1) = smA (wF kd s.toNat) (hN s) l f) := rfl
  have HEB : Hid (mkL (hN s) (fun i => (wF kd s.toNat i (l.getD (hN s - 1 - i) 0) (f.getD i 0)).2) = smB (wF kd s.toNat) (hN s) l f) := rfl
  have HO1 : Hid (mkL (hN s) (fun i => l.getD i 0) = l) := by show _ = _; rw [← nl]; exact mkL_self l
  have HO2 : Hid (mkL (hN s) (fun i => f.getD i 0) = f) := by show _ = _; rw [← nf]; exact mkL_self f
  rw [nl, nf]
  rw [nl] at H1
  rw [nf] at H2
  generalize smA (wF kd s.toNat) (hN s) l f = RA at *
  generalize smB (wF kd s.toNat) (hN s) l f = RB at *
  generalize (fun j => (wF kd s.toNat (hN s - 1 - j) (l.getD j 0) (f.getD (hN s - 1 - j) 0)).1) = fa at *
  generalize (fun i => (wF kd s.toNat i (l.getD (hN s - 1 - i) 0) (f.getD i 0)).2) = fb at *
  generalize hoa : (fun i => l.getD i 0) = oa at *
  generalize hob : (fun i => f.getD i 0) = ob at *
  have HOa : Hid (∀ i, oa i = l.getD i 0) := fun i => by rw [← hoa]
  have HOb : Hid (∀ i, ob i = f.getD i 0) := fun i => by rw [← hob]
  rw [nl, nf] at *
  clear hoa hob e1 e2 e5 hz nl nf hnl hnf ll lf hT hwv
  generalize hN s = m at *
  go_enter Tryd.func116, Tryd.ntmps116
  go_wp2_with fail
  refine (HC1.out _ H1.out).mono ?_
  rintro e w1 ⟨ga, ca, rfl, ho1, hb1⟩
  have HQ1 := hid ho1
  have HB1 := hid hb1
  have hga := (ho1.block ga rfl).2
  have H21 := hid (H2.out.later hb1)
  clear ho1 hb1 HC1 H1 H2
  go_wp2_with fail
  refine (HC2.out _ H21.out).mono ?_
  rintro e w2 ⟨gb, cb, rfl, ho2, hb2⟩
  have HK0 : Hid (HK w m ga ca gb cb (sx m 0 fa oa) (mx m 0 fb ob) w2) := by
    rw [sx_zero, mx_zero, HO1.out, HO2.out]
    have := (ho2.block gb rfl).1
    exact ⟨by omega, HQ1.out.later hb2, ho2.mono HB1.out.size, bthen HB1.out hb2⟩
  clear ho2 hb2 HQ1 HB1 HC2 H21 hga HO1 HO2
  go_wp2_with fail
  refine (HM.out _).mono ?_
  rintro e w3 ⟨rfl, rfl⟩
  go_wp2_with fail
  go_loopw [21] (fun i wr => ∃ k : Nat, i = .int .i64 (k : Int) ∧ k ≤ m ∧ Hid (HK w m ga ca gb cb (sx m k fa oa) (mx m k fb ob) wr)) (fun i _ => m - (intOf i).toNat)
  case atStart => exact ⟨0, rfl, Nat.zero_le _, HK0⟩
  case round =>
    obtain ⟨k, rfl, hk, HKk⟩ := hrel
    clear HK0
    by_cases hlt : k < m
    · obtain ⟨q, hq⟩ : ∃ q : Nat, m - 1 - k = q := ⟨_, rfl⟩
      have hqI : (m : Int) - 1 - (k : Int) = (q : Int) := by omega
      have hqm : q < m := by omega
      have hx := HL1.out q
      have hy := HL2.out k
      have hok := HTk.out k hlt
      obtain ⟨ec, ea, eb⟩ := t_yes hok
      have hpu := pu_bd hok
      have HTf := hid (fun W (hW : Tab W) => turnOf_calls s (k : Int) W hW)
      rw [ec, ea, eb] at HTf
      have v1 := HA.out k hlt
      have v2 := HB.out k hlt
      rw [hq] at v1 v2
      have HAh := hid (fun W (hv : WayV kd W wv) => turned_calls kd hkd wv (pV s (k : Int)) (uV s (k : Int)) (l.getD q 0) (f.getD k 0) W hv hpu hx hy)
      rw [← v1, ← v2] at HAh
      have hsa := sx_set hlt fa oa
      have hga' := sx_get fa oa hlt
      rw [hq] at hsa hga'
      rw [HOa.out q] at hga'
      have hgb' := mx_get fb ob hlt
      rw [HOb.out k] at hgb'
      have HSA := hid hsa
      have HSB := hid (mx_set m k fb ob)
      have Hlen : Hid (m = (sx m k fa oa).length ∧ m = (mx m k fb ob).length) := ⟨(sx_len _ _ _ _).symm, (mx_len _ _ _ _).symm⟩
      have HCe : Hid (∀ W, HK w m ga ca gb cb (sx m k fa oa) (mx m k fb ob) W → (W.cell? ⟨ga, q, none⟩ = some (.int .i64 (l.getD q 0)) ∧ W.frozen? ⟨ga, q, none⟩ = false) ∧ (W.cell? ⟨gb, k, none⟩ = some (.int .i64 (f.getD k 0)) ∧ W.frozen? ⟨gb, k, none⟩ = false)) := by
        intro W hW
        have c1 := hW.s.cellAt Hlen.out.1 q (by rw [← Hlen.out.1]; exact hqm)
        have c2 := hW.d.cellAt Hlen.out.2 k (by rw [← Hlen.out.2]; exact hlt)
        rw [hga'] at c1
        rw [hgb'] at c2
        exact ⟨c1, c2⟩
      have HN : Hid (∀ W, HK w m ga ca gb cb (sx m k fa oa) (mx m k fb ob) W → HK w m ga ca gb cb (sx m (k + 1) fa oa) (mx m (k + 1) fb ob) ((W.setCell ⟨ga, q, none⟩ (.int .i64 (fa q))).setCell ⟨gb, k, none⟩ (.int .i64 (fb k))).drew) := by
        intro W hW
        have hst1 := Ow.set hW.s Hlen.out.1 q (fa q)
        have hd1 := Ow.keptNe hW.d hst1.2 (fun i e => by simp [Value.ownBlock] at e ⊢; have := hW.ne; omega)
        have hst2 := Ow.set hd1 Hlen.out.2 k (fb k)
        have hs2 := Ow.keptNe hst1.1 hst2.2 (fun i e => by simp [Value.ownBlock] at e ⊢; have := hW.ne; omega)
        rw [HSA.out] at hs2
        have hd2 := hst2.1
        rw [HSB.out] at hd2
        exact ⟨hW.ne, hs2, hd2, ((hW.b.setCell (p := ⟨ga, q, none⟩) (blk_of hW.s).1 _).setCell (p := ⟨gb, k, none⟩) (blk_of hW.d).1 _).drew⟩
      have hkI : (k : Int) < (m : Int) := by omega
      have hqI2 : (q : Int) < (m : Int) := by omega
      have hmI : (m : Int) ≤ 8 := by omega
      have e1 : IntKind.i64.wrap ((m : Int) - 1) = (m : Int) - 1 := wrapk_of (by omega) (by omega)
      have e2 : IntKind.i64.wrap (q : Int) = (q : Int) := wrapk_of (by omega) (by omega)
      clear v1 v2 hsa hga' hgb' HSA HSB Hlen ec ea eb hok hpu hx hy HL1 HL2 HA HB HTk hq HOa HOb HEA HEB
      generalize pV s (k : Int) = p at *
      generalize uV s (k : Int) = u at *
      generalize l.getD q 0 = x at *
      generalize f.getD k 0 = y at *
      generalize fa q = xa at *
      generalize fb k = xb at *
      go_wp2_with fail
      refine (HTf.out _ (HT.out.later HKk.out.b)).mono ?_
      rintro e w4 ⟨rfl, hb4⟩
      have HK2 : Hid (HK w m ga ca gb cb (sx m k fa oa) (mx m k fb ob) (w4.alloc (.cells #[.int .i64 p, .int .i64 u] 85))) := by
        have hh := bmore hb4 (.cells #[.int .i64 p, .int .i64 u] 85)
        exact ⟨HKk.out.ne, HKk.out.s.later hh, HKk.out.d.later hh, bthen HKk.out.b hh⟩
      have HP2 := hid (Blk.new w4 #[.int .i64 p, .int .i64 u] 85)
      clear HKk hb4 HTf
      go_wp2_with fail
      refine (HM.out _).mono ?_
      rintro e w5 ⟨rfl, rfl⟩
      go_upto_region 7 with fail
      have hP0 := HP2.out.lt
      generalize w4.heap.size = P at *
      generalize w4.alloc (.cells #[.int .i64 p, .int .i64 u] 85) = w6 at *
      have hWY : WayV kd w6 wv := HWY.out.later HK2.out.b
      go_cut [14] from 35 to 46 (fun z wc => ∃ E : Nat, z = .pointer (some ⟨E, 0, none⟩) ∧ w6.heap.size ≤ E ∧ Hid (Blk wc E #[.int .i64 xa, .int .i64 xb] 69) ∧ Hid (Below w6.heap.size w6 wc))
      case first =>
        have hL0 : Below w6.heap.size w6 w6.drew := (Below.refl _ w6).drew
        have hA1 : Below w6.heap.size w6 (w6.alloc (.cells #[.int .i64 0, .int .i64 0] 69)).drew := (bmore (Below.refl _ w6) _).drew
        have hE1 : Blk (w6.alloc (.cells #[.int .i64 0, .int .i64 0] 69)).drew w6.heap.size #[.int .i64 0, .int .i64 0] 69 := Blk.new w6 _ _
        obtain ⟨p0, p1, _, _⟩ := HP2.out.two
        obtain ⟨⟨c1, _⟩, ⟨c2, _⟩⟩ := HCe.out _ HK2.out
        have hgl := (HK2.out.s.block ga rfl).2
        have hgk := (HK2.out.d.block gb rfl).2
        refine wp_region_noPanic ?_
        refine wp_region_held_drew (S := fun W => Below w6.heap.size w6 W) (by kernel_rfl) (by first | exact hP9 | exact hL9 | exact hL8 | exact hP7 | exact hL7 | exact hA1 | exact hL0) (fun hHeld => ?_)
        (refine wpAnyH_take (i := 0) (v := ?_) rfl (by kernel_rfl) (by kernel_rfl) (by kernel_rfl) (fun _ _ _ h => h) (Or.inl ⟨by rfl, ?_⟩) hHeld ?_; rotate_left; (intro w hSw; (have s1 := (hSw.cell (p := ⟨ga, q, none⟩) hgl).trans c1; have s2 := (hSw.cell (p := ⟨gb, k, none⟩) hgk).trans c2; have s3 := (hSw.cell (p := ⟨P, 0, none⟩) hP0).trans p0; have s4 := (hSw.cell (p := ⟨P, 1, none⟩) hP0).trans p1; clear hSw); (go_simp <;> with_reducible rfl)); simp only [List.getElem_toArray, List.getElem_cons_zero, Act.put, List.setIfInBounds_toArray, List.set_cons_zero, List.set_cons_succ])
        (refine wpAnyH_take (i := 1) (v := ?_) rfl (by kernel_rfl) (by kernel_rfl) (by kernel_rfl) (fun _ _ _ h => h) (Or.inl ⟨by rfl, ?_⟩) hHeld ?_; rotate_left; (intro w hSw; (have s1 := (hSw.cell (p := ⟨ga, q, none⟩) hgl).trans c1; have s2 := (hSw.cell (p := ⟨gb, k, none⟩) hgk).trans c2; have s3 := (hSw.cell (p := ⟨P, 0, none⟩) hP0).trans p0; have s4 := (hSw.cell (p := ⟨P, 1, none⟩) hP0).trans p1; clear hSw); (go_simp <;> with_reducible rfl)); simp only [List.getElem_toArray, List.getElem_cons_zero, List.getElem_cons_succ, Act.put, List.setIfInBounds_toArray, List.set_cons_zero, List.set_cons_succ])
        (refine wpAnyH_take (i := 2) (v := ?_) rfl (by kernel_rfl) (by kernel_rfl) (by kernel_rfl) (fun _ _ _ h => h) (Or.inl ⟨by rfl, ?_⟩) hHeld ?_; rotate_left; (intro w hSw; (have s1 := (hSw.cell (p := ⟨ga, q, none⟩) hgl).trans c1; have s2 := (hSw.cell (p := ⟨gb, k, none⟩) hgk).trans c2; have s3 := (hSw.cell (p := ⟨P, 0, none⟩) hP0).trans p0; have s4 := (hSw.cell (p := ⟨P, 1, none⟩) hP0).trans p1; clear hSw); (go_simp <;> with_reducible rfl)); simp only [List.getElem_toArray, List.getElem_cons_zero, List.getElem_cons_succ, Act.put, List.setIfInBounds_toArray, List.set_cons_zero, List.set_cons_succ])
        (refine wpAnyH_take (i := 3) (v := ?_) rfl (by kernel_rfl) (by kernel_rfl) (by kernel_rfl) (fun _ _ _ h => h) (Or.inl ⟨by rfl, ?_⟩) hHeld ?_; rotate_left; (intro w hSw; (have s1 := (hSw.cell (p := ⟨ga, q, none⟩) hgl).trans c1; have s2 := (hSw.cell (p := ⟨gb, k, none⟩) hgk).trans c2; have s3 := (hSw.cell (p := ⟨P, 0, none⟩) hP0).trans p0; have s4 := (hSw.cell (p := ⟨P, 1, none⟩) hP0).trans p1; clear hSw); (go_simp <;> with_reducible rfl)); simp only [List.getElem_toArray, List.getElem_cons_zero, List.getElem_cons_succ, Act.put, List.setIfInBounds_toArray, List.set_cons_zero, List.set_cons_succ])
        (refine wpAnyH_take (i := 4) (v := ?_) rfl (by kernel_rfl) (by kernel_rfl) (by kernel_rfl) (fun _ _ _ h => h) (Or.inl ⟨by rfl, ?_⟩) hHeld ?_; rotate_left; (intro w hSw; (have s1 := (hSw.cell (p := ⟨ga, q, none⟩) hgl).trans c1; have s2 := (hSw.cell (p := ⟨gb, k, none⟩) hgk).trans c2; have s3 := (hSw.cell (p := ⟨P, 0, none⟩) hP0).trans p0; have s4 := (hSw.cell (p := ⟨P, 1, none⟩) hP0).trans p1; clear hSw); (go_simp <;> with_reducible rfl)); simp only [List.getElem_toArray, List.getElem_cons_zero, List.getElem_cons_succ, Act.put, List.setIfInBounds_toArray, List.set_cons_zero, List.set_cons_succ])
        (refine wpAnyH_take (i := 5) (v := ?_) rfl (by kernel_rfl) (by kernel_rfl) (by kernel_rfl) (fun _ _ _ h => h) (Or.inl ⟨by rfl, ?_⟩) hHeld ?_; rotate_left; (intro w hSw; (have s1 := (hSw.cell (p := ⟨ga, q, none⟩) hgl).trans c1; have s2 := (hSw.cell (p := ⟨gb, k, none⟩) hgk).trans c2; have s3 := (hSw.cell (p := ⟨P, 0, none⟩) hP0).trans p0; have s4 := (hSw.cell (p := ⟨P, 1, none⟩) hP0).trans p1; clear hSw); (go_simp <;> with_reducible rfl)); simp only [List.getElem_toArray, List.getElem_cons_zero, List.getElem_cons_succ, Act.put, List.setIfInBounds_toArray, List.set_cons_zero, List.set_cons_succ])
        (refine wpAnyH_take (i := 6) (v := ?_) rfl (by kernel_rfl) (by kernel_rfl) (by kernel_rfl) (fun _ _ _ h => h) (Or.inl ⟨by rfl, ?_⟩) hHeld ?_; rotate_left; (intro w hSw; (have s1 := (hSw.cell (p := ⟨ga, q, none⟩) hgl).trans c1; have s2 := (hSw.cell (p := ⟨gb, k, none⟩) hgk).trans c2; have s3 := (hSw.cell (p := ⟨P, 0, none⟩) hP0).trans p0; have s4 := (hSw.cell (p := ⟨P, 1, none⟩) hP0).trans p1; clear hSw); (go_simp <;> with_reducible rfl)); simp only [List.getElem_toArray, List.getElem_cons_zero, List.getElem_cons_succ, Act.put, List.setIfInBounds_toArray, List.set_cons_zero, List.set_cons_succ])
        (refine wpAnyH_take (i := 7) (v := ?_) rfl (by kernel_rfl) (by kernel_rfl) (by kernel_rfl) (fun _ _ _ h => h) (Or.inl ⟨by rfl, ?_⟩) hHeld ?_; rotate_left; (intro w hSw; (have s1 := (hSw.cell (p := ⟨ga, q, none⟩) hgl).trans c1; have s2 := (hSw.cell (p := ⟨gb, k, none⟩) hgk).trans c2; have s3 := (hSw.cell (p := ⟨P, 0, none⟩) hP0).trans p0; have s4 := (hSw.cell (p := ⟨P, 1, none⟩) hP0).trans p1; clear hSw); (go_simp <;> with_reducible rfl)); simp only [List.getElem_toArray, List.getElem_cons_zero, List.getElem_cons_succ, Act.put, List.setIfInBounds_toArray, List.set_cons_zero, List.set_cons_succ])
        (refine wpAnyH_take (i := 8) (v := ?_) rfl (by kernel_rfl) (by kernel_rfl) (by kernel_rfl) (fun _ _ _ h => h) (Or.inl ⟨by rfl, ?_⟩) hHeld ?_; rotate_left; (intro w hSw; (have s1 := (hSw.cell (p := ⟨ga, q, none⟩) hgl).trans c1; have s2 := (hSw.cell (p := ⟨gb, k, none⟩) hgk).trans c2; have s3 := (hSw.cell (p := ⟨P, 0, none⟩) hP0).trans p0; have s4 := (hSw.cell (p := ⟨P, 1, none⟩) hP0).trans p1; clear hSw); (go_simp <;> with_reducible rfl)); simp only [List.getElem_toArray, List.getElem_cons_zero, List.getElem_cons_succ, Act.put, List.setIfInBounds_toArray, List.set_cons_zero, List.set_cons_succ])
        (refine wpAnyH_take (i := 9) (v := ?_) rfl (by kernel_rfl) (by kernel_rfl) (by kernel_rfl) (fun _ _ _ h => h) (Or.inl ⟨by rfl, ?_⟩) hHeld ?_; rotate_left; (intro w hSw; (have s1 := (hSw.cell (p := ⟨ga, q, none⟩) hgl).trans c1; have s2 := (hSw.cell (p := ⟨gb, k, none⟩) hgk).trans c2; have s3 := (hSw.cell (p := ⟨P, 0, none⟩) hP0).trans p0; have s4 := (hSw.cell (p := ⟨P, 1, none⟩) hP0).trans p1; clear hSw); (go_simp <;> with_reducible rfl)); simp only [List.getElem_toArray, List.getElem_cons_zero, List.getElem_cons_succ, Act.put, List.setIfInBounds_toArray, List.set_cons_zero, List.set_cons_succ])
        refine wpAnyH_ready (rs := [10, 12]) (by kernel_rfl) (by simp) ?_
        refine (AllReadyH.cons rfl (fun K hK => ?_) (AllReadyH.cons rfl (fun K hK => ?_) AllReadyH.nil))
        · go_simp
          (refine (HP.out _ _ _).mono ?_; rintro e w8 ⟨rfl, hb8⟩; have hL8 := bthen hHeld hb8; have hL7 := bmore hL8 (.cells #[.int .i64 0, .int .i64 0] 69); have hE8 := Blk.new w8 #[.int .i64 0, .int .i64 0] 69; have hle8 : w6.heap.size ≤ w8.heap.size := hL8.size)
          refine hK.out _ _ (by first | exact hP9 | exact hL9 | exact hL8 | exact hP7 | exact hL7 | exact hA1 | exact hL0) (fun hHeld => ?_)
          clear hK K
          try dsimp only
          refine wpAnyH_ready (rs := [11, 12]) (by kernel_rfl) (by simp) ?_
          refine (AllReadyH.cons rfl (fun K hK => ?_) (AllReadyH.cons rfl (fun K hK => ?_) AllReadyH.nil))
          · go_simp
            (refine (HAh.out _ (hWY.later hHeld)).mono ?_; rintro e w9 ⟨rfl, hb9⟩; have hL9 := bthen hHeld hb9; clear hE8; have hle8 : w6.heap.size ≤ w9.heap.size := hL9.size; have hL7 := bmore hL9 (.cells #[.int .i64 0, .int .i64 0] 69); have hP7 := bmore hL9 (.cells #[.int .i64 xa, .int .i64 xb] 69); have hQ9 := Blk.new w9 #[.int .i64 xa, .int .i64 xb] 69)
            refine hK.out _ _ (by first | exact hP9 | exact hL9 | exact hL8 | exact hP7 | exact hL7 | exact hA1 | exact hL0) (fun hHeld => ?_)
            clear hK K
            try dsimp only
            refine wpAnyH_ready (rs := [12]) (by kernel_rfl) (by simp) ?_
            refine (AllReadyH.cons rfl (fun K hK => ?_) AllReadyH.nil)
            go_simp
            skip
            refine hK.out _ _ (by first | exact hP9 | exact hL9 | exact hL8 | exact hP7 | exact hL7 | exact hA1 | exact hL0) (fun hHeld => ?_)
            clear hK K
            try simp only [List.getElem_toArray, List.getElem_cons_zero, List.getElem_cons_succ, Act.put, List.setIfInBounds_toArray, List.set_cons_zero, List.set_cons_succ]
            refine wpAnyH_ready (rs := [13]) (by kernel_rfl) (by simp) ?_
            refine (AllReadyH.cons rfl (fun K hK => ?_) AllReadyH.nil)
            go_simp
            skip
            refine hK.out _ _ (by first | exact hP9 | exact hL9 | exact hL8 | exact hP7 | exact hL7 | exact hA1 | exact hL0) (fun hHeld => ?_)
            clear hK K
            try simp only [List.getElem_toArray, List.getElem_cons_zero, List.getElem_cons_succ, Act.put, List.setIfInBounds_toArray, List.set_cons_zero, List.set_cons_succ]
            refine wpAnyH_done (by kernel_rfl) ?_ _
            refine NoPanic.normal ?_
            go_wp2_with fail
            go_meet
            case rel => first | exact ⟨_, rfl, hle8, hQ9, hP9⟩ | exact ⟨_, rfl, hle8, hQ9, hP7⟩
          · go_simp
            skip
            refine hK.out _ _ (by first | exact hP9 | exact hL9 | exact hL8 | exact hP7 | exact hL7 | exact hA1 | exact hL0) (fun hHeld => ?_)
            clear hK K
            try simp only [List.getElem_toArray, List.getElem_cons_zero, List.getElem_cons_succ, Act.put, List.setIfInBounds_toArray, List.set_cons_zero, List.set_cons_succ]
            refine wpAnyH_ready (rs := [11]) (by kernel_rfl) (by simp) ?_
            refine (AllReadyH.cons rfl (fun K hK => ?_) AllReadyH.nil)
            go_simp
            (refine (HAh.out _ (hWY.later hHeld)).mono ?_; rintro e w9 ⟨rfl, hb9⟩; have hL9 := bthen hHeld hb9; have hE9 := hE8.later hb9; obtain ⟨y0, y1, y2, y3⟩ := hE9.two; have hP9 := below_cell (below_cell hL9 hle8 0 (.int .i64 xa)) hle8 1 (.int .i64 xb); have hQ9 := (hE9.set 0 (.int .i64 xa)).set 1 (.int .i64 xb))
            refine hK.out _ _ (by first | exact hP9 | exact hL9 | exact hL8 | exact hP7 | exact hL7 | exact hA1 | exact hL0) (fun hHeld => ?_)
            clear hK K
            try dsimp only
            refine wpAnyH_ready (rs := [13]) (by kernel_rfl) (by simp) ?_
            refine (AllReadyH.cons rfl (fun K hK => ?_) AllReadyH.nil)
            go_simp
            skip
            refine hK.out _ _ (by first | exact hP9 | exact hL9 | exact hL8 | exact hP7 | exact hL7 | exact hA1 | exact hL0) (fun hHeld => ?_)
            clear hK K
            try simp only [List.getElem_toArray, List.getElem_cons_zero, List.getElem_cons_succ, Act.put, List.setIfInBounds_toArray, List.set_cons_zero, List.set_cons_succ]
            refine wpAnyH_done (by kernel_rfl) ?_ _
            refine NoPanic.normal ?_
            go_wp2_with fail
            go_meet
            case rel => first | exact ⟨_, rfl, hle8, hQ9, hP9⟩ | exact ⟨_, rfl, hle8, hQ9, hP7⟩
        · go_simp
          skip
          refine hK.out _ _ (by first | exact hP9 | exact hL9 | exact hL8 | exact hP7 | exact hL7 | exact hA1 | exact hL0) (fun hHeld => ?_)
          clear hK K
          try simp only [List.getElem_toArray, List.getElem_cons_zero, List.getElem_cons_succ, Act.put, List.setIfInBounds_toArray, List.set_cons_zero, List.set_cons_succ]
          refine wpAnyH_ready (rs := [10]) (by kernel_rfl) (by simp) ?_
          refine (AllReadyH.cons rfl (fun K hK => ?_) AllReadyH.nil)
          go_simp
          (refine (HP.out _ _ _).mono ?_; rintro e w8 ⟨rfl, hb8⟩; have hL8 := bthen hHeld hb8; have hE8 := hE1.later hb8; have hle8 : w6.heap.size ≤ w6.heap.size := Nat.le_refl _)
          refine hK.out _ _ (by first | exact hP9 | exact hL9 | exact hL8 | exact hP7 | exact hL7 | exact hA1 | exact hL0) (fun hHeld => ?_)
          clear hK K
          try dsimp only
          refine wpAnyH_ready (rs := [11]) (by kernel_rfl) (by simp) ?_
          refine (AllReadyH.cons rfl (fun K hK => ?_) AllReadyH.nil)
          go_simp
          (refine (HAh.out _ (hWY.later hHeld)).mono ?_; rintro e w9 ⟨rfl, hb9⟩; have hL9 := bthen hHeld hb9; have hE9 := hE8.later hb9; obtain ⟨y0, y1, y2, y3⟩ := hE9.two; have hP9 := below_cell (below_cell hL9 hle8 0 (.int .i64 xa)) hle8 1 (.int .i64 xb); have hQ9 := (hE9.set 0 (.int .i64 xa)).set 1 (.int .i64 xb))
          refine hK.out _ _ (by first | exact hP9 | exact hL9 | exact hL8 | exact hP7 | exact hL7 | exact hA1 | exact hL0) (fun hHeld => ?_)
          clear hK K
          try dsimp only
          refine wpAnyH_ready (rs := [13]) (by kernel_rfl) (by simp) ?_
          refine (AllReadyH.cons rfl (fun K hK => ?_) AllReadyH.nil)
          go_simp
          skip
          refine hK.out _ _ (by first | exact hP9 | exact hL9 | exact hL8 | exact hP7 | exact hL7 | exact hA1 | exact hL0) (fun hHeld => ?_)
          clear hK K
          try simp only [List.getElem_toArray, List.getElem_cons_zero, List.getElem_cons_succ, Act.put, List.setIfInBounds_toArray, List.set_cons_zero, List.set_cons_succ]
          refine wpAnyH_done (by kernel_rfl) ?_ _
          refine NoPanic.normal ?_
          go_wp2_with fail
          go_meet
          case rel => first | exact ⟨_, rfl, hle8, hQ9, hP9⟩ | exact ⟨_, rfl, hle8, hQ9, hP7⟩
      case rest =>
        obtain ⟨E, rfl, hE, HE, HBq⟩ := hcut
        have hEa : ga ≠ E := by have := (HK2.out.s.block ga rfl).2; omega
        have hEb : gb ≠ E := by have := (HK2.out.d.block gb rfl).2; omega
        have HK3 : Hid (HK w m ga ca gb cb (sx m k fa oa) (mx m k fb ob) wc) := ⟨HK2.out.ne, HK2.out.s.later HBq.out, HK2.out.d.later HBq.out, bthen HK2.out.b HBq.out⟩
        have hab := HK3.out.ne
        obtain ⟨⟨c1, f1⟩, ⟨c2, f2⟩⟩ := HCe.out _ HK3.out
        obtain ⟨y0, y1, _, _⟩ := HE.out.two
        have HK4 := hid (HN.out _ HK3.out)
        have mixed := mixed_orders
        clear HK2 HP2 HE HBq HK3 HN HCe HAh HP hP0 hE
        go_wp2_with fail
        go_region_o
        go_wp2
        go_roundw
        case rel => exact ⟨k + 1, by go_num, by omega, HK4⟩
        case measure => simp [intOf]; omega
    · obtain rfl : k = m := by omega
      rw [sx_end, mx_end, HEA.out, HEB.out] at HKk
      go_wp2
      exact bodyPost_ret (v := .tuple #[.slice (some ⟨ga, 0, none⟩) k ca, .slice (some ⟨gb, 0, none⟩) k cb]) (by simp [results, Tryd.results116, go_sem]) rfl ⟨ga, ca, gb, cb, rfl, HKk.out⟩
end Go.Proofs.YtbakmphopgkpmaaDoor.LdI
