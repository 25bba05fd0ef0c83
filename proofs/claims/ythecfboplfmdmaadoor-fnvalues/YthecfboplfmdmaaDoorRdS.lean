/- The model's reader: l4Next. -/
import Derived.Test.YthecfboplfmdmaaDoorRdK
import Derived.Test.YthecfboplfmdmaaDoorValS
namespace Go.Proofs.YthecfboplfmdmaaDoor.RdS
open Go.ChangeShapes Go.WideShapes Go.ChangeAt Go.RowKit Go.Proofs.YthecfboplfmdmaaDoor.Num Go.Proofs.YthecfboplfmdmaaDoor.Sli Go.Proofs.YthecfboplfmdmaaDoor.App Go.Proofs.YthecfboplfmdmaaDoor.Byt Go.Proofs.YthecfboplfmdmaaDoor.CrcM Go.Proofs.YthecfboplfmdmaaDoor.Div Go.Proofs.YthecfboplfmdmaaDoor.Dec Go.Proofs.YthecfboplfmdmaaDoor.Blk Go.Proofs.YthecfboplfmdmaaDoor.Nxt Go.Proofs.YthecfboplfmdmaaDoor.Byte Go.Proofs.YthecfboplfmdmaaDoor.TakS Go.Proofs.YthecfboplfmdmaaDoor.TakT Go.Proofs.YthecfboplfmdmaaDoor.SlS Go.Proofs.YthecfboplfmdmaaDoor.ValZ Go.Proofs.YthecfboplfmdmaaDoor.ValI Go.Proofs.YthecfboplfmdmaaDoor.ValJ Go.Proofs.YthecfboplfmdmaaDoor.ValK Go.Proofs.YthecfboplfmdmaaDoor.ValS Go.Proofs.YthecfboplfmdmaaDoor.ValM Go.Proofs.YthecfboplfmdmaaDoor.RdM Go.Proofs.YthecfboplfmdmaaDoor.RdI Go.Proofs.YthecfboplfmdmaaDoor.RdJ Go.Proofs.YthecfboplfmdmaaDoor.RdK

theorem fieldL0 (a b c : Value) (w : World) : (Instr.field 75 (.agg #[a, b, c]) 0).run Tryd.prog w = .ok a w := by kernel_rfl
attribute [local go_sem] fieldL0
/-- The decoder in block g, whose bytes lie in v. -/
structure RS (g : Nat) (d : Dv) (v : Value) (W : World) : Prop where
  k : Blk W g #[v, .int .i64 d.at', .int .i64 d.rst, .int .i64 d.rng] 88
  o : OwB 0 W v d.xs
theorem RS.later {g : Nat} {d : Dv} {v : Value} {W W' : World} (h : RS g d v W) (hb : Below W.heap.size W W') : RS g d v W' := ⟨h.k.later hb, h.o.later hb⟩
theorem RS.drewN {g : Nat} {d : Dv} {v : Value} {W : World} (h : RS g d v W) (m : Nat) : RS g d v (W.drewN m) := ⟨h.k, h.o⟩
theorem grown_drewN {w w' : World} {r : Option Nat} (h : w.grownBy w' r) (n : Nat) : w.grownBy (w'.drewN n) r := ⟨h.os, h.tape, h.output, h.size, h.block⟩
theorem val_calls (g : Nat) (d : Dv) (v : Value) (m : Nat) (tot : Int) (w : World) (h : RS g d v w) (hd : dOk d m) (h1 : 1 ≤ tot) (h2 : tot ≤ 1024) :
    Calls Tryd.prog 85 #[.pointer (some ⟨g, 0, none⟩), .int .i64 tot] w fun e w' => e = .returned (.int .i64 (nV d.rst d.rng tot)) ∧ ∃ m, w' = w.drewN m := by
  obtain ⟨_, _, ⟨h3, h4⟩, h8, h9⟩ := of_dF hd.f
  obtain ⟨_, _, c2, c3, _⟩ := h.k.four
  exact l3Value_calls g d.rst d.rng tot w c2 c3 h3 h4 h1 h2 h8 (by omega)
theorem tak_calls (g : Nat) (d : Dv) (v : Value) (m : Nat) (lo sz tot : Int) (w : World) (h : RS g d v w) (hd : dOk d m) (hm : m ≤ 1000) (hs : sF lo sz tot = 0) (v1 : lo ≤ nV d.rst d.rng tot) (v2 : nV d.rst d.rng tot < lo + sz) :
    Calls Tryd.prog 87 #[.pointer (some ⟨g, 0, none⟩), .agg #[.int .i64 lo, .int .i64 sz, .int .i64 tot]] w fun e w' => (∃ r, e = .returned r) ∧ RS g (tN d lo sz tot) v w' ∧ w.grownBy w' (some g) := by
  obtain ⟨hn, ⟨ha1, ha2⟩, ⟨h1, h2⟩, h8, h9⟩ := of_dF hd.f
  obtain ⟨⟨h3, h4⟩, ⟨h5, h5'⟩, h6, h7⟩ := of_sF hs
  obtain ⟨r1, r2⟩ := slot_in d.rst d.rng lo sz tot h1 h2 h3 h4 (by omega) (by omega) v1 (by omega)
  have ha := hd.a
  have e1 : d.at' = (d.at'.toNat : Int) := by omega
  have ha3 : d.at' ≤ 3000 := by omega
  have hk := h.k
  rw [e1] at hk
  refine (l3Take_calls g v d.xs d.at'.toNat d.rst d.rng lo sz tot _ w hk (fun w' hg => (ow_apart h.o h.k (by decide) hg).sl) hd.x h1 h2 h3 h4 h5 h6 (by omega) r1 r2 (by omega)).mono ?_
  rintro e w' ⟨he, hB, hg⟩
  exact ⟨he, ⟨hB, ow_apart h.o h.k (by decide) hg⟩, hg⟩
theorem uz_zero : uz 0 = 0 := by decide
theorem pcs_zero : pcs 0 = [] := by decide
theorem psD_nil (d : Dv) : psD d [] = d := rfl
theorem kD_eq (d : Dv) : tN d (lwc (kN d) : Int) (shr (kN d) : Int) 256 = kD d := rfl
theorem pD_eq (d : Dv) (k : Nat) : tN d (pN d k : Int) 1 (tw k : Int) = pD d k := rfl
theorem zero_next (d : Dv) (h0 : kN d = 0) : uz (zN d) = 0 ∧ kD d = zD d := by
  have e1 : zN d = 0 := if_pos h0
  refine ⟨by rw [e1, uz_zero], ?_⟩
  rw [← (zN_ps d).2, h0, pcs_zero, psD_nil]
theorem wr_two {ZT Y N Z' : Int} (h : ZT = Y) (y0 : 0 ≤ Y) (y1 : Y + N = Z') (hn : 0 ≤ N) (y2 : Z' ≤ 131071) : wrap64 ZT = Y ∧ wrap64 (Y + N) = Z' := by
  subst h
  rw [y1]
  exact ⟨wrap_of (by omega) (by omega), wrap_of (by omega) (by omega)⟩
set_option maxRecDepth 100000 in
set_option maxHeartbeats 4000000 in
theorem l4Next_calls (g : Nat) (d : Dv) (v : Value) (m : Nat) (w : World) (h : RS g d v w) (hd : dOk d m) (hm : m ≤ 300) :
    Calls Tryd.prog 60 #[.pointer (some ⟨g, 0, none⟩)] w fun e w' => e = .returned (.int .i64 (uz (zN d))) ∧ RS g (zD d) v w' ∧ w.grownBy w' (some g) := by
  obtain ⟨q1, q2, q3, q4, q5⟩ := kN_lt hd
  obtain ⟨_, _, hkd, _⟩ := k_ok hd (by omega)
  have HV0 := hid (val_calls g d v m 256 w h hd (by omega) (by omega))
  have HTk := hid (fun W (hW : RS g d v W) => tak_calls g d v m (lwc (kN d) : Int) (shr (kN d) : Int) 256 W hW hd (by omega) (sF_of (cSl_ok q1)) q2 q3)
  rw [kD_eq] at HTk
  have HCs := hid (fun c (hc : c ≤ kN d) => class_step hd hc)
  have HSl := hid l4Class_calls
  have HSz := hid l4Share_calls
  have HPs := hid (fun W => l4Pieces_calls (kN d) W q1)
  have HM := hid (fun j hj => mid_ok hd hm j hj)
  have HZ := hid (zN_ps d)
  have HF := hid (pcs_facts q1).2.2
  have Hzl := hid (zN_lt hd hm)
  have HUz := hid (fun W => l4Unzig_calls (zN d) W (zN_lt hd hm))
  have Hf0 : Hid (kN d ≠ 0 → fD (kN d) = 1) := fun h0 => if_neg h0
  have Hz0 : Hid (kN d = 0 → uz (zN d) = 0 ∧ kD d = zD d) := zero_next d
  have hgl := h.k.lt
  have HR := hid h
  clear q2 q3 h hd hkd
  generalize hnv : nV d.rst d.rng 256 = nv at *
  generalize hfd : fD (kN d) = f0 at *
  generalize hkd : kD d = d1 at *
  generalize hkn : kN d = K at *
  clear hfd hkd hkn hnv
  go_enter Tryd.func60, Tryd.ntmps60
  go_wp2_with fail
  refine HV0.out.mono ?_
  rintro e w1 ⟨rfl, m1, rfl⟩
  have HR1 := hid (HR.out.drewN m1)
  have HG1 : Hid (Below w.heap.size w (w.drewN m1)) := below_drewN (Below.refl _ _) m1
  clear HV0
  go_wp2_with fail
  generalize w.drewN m1 = w1 at *
  go_loopw [4] (fun i wr => ∃ c : Nat, i = .int .i64 (c : Int) ∧ c ≤ K ∧ Hid (Below w.heap.size w wr)) (fun i _ => K - (intOf i).toNat)
  case atStart => exact ⟨0, rfl, Nat.zero_le _, HG1.out⟩
  case round =>
    clear HG1 HR1
    obtain ⟨c, rfl, hc, hB⟩ := hrel
    by_cases hlt : c < K
    · obtain ⟨r1, r2⟩ := (HCs.out c hc).1 hlt
      have hs1 := hid (HSl.out c wr (by omega))
      have hs2 := hid (HSz.out c)
      have hle := lwc_le c
      have hse := shr_le c
      have r1' : (c : Int) < 17 := by omega
      generalize lwc c = lk at *
      generalize shr c = sk at *
      have q1' : wrap64 ((lk : Int) + (sk : Int)) = (lk : Int) + (sk : Int) := wrap_of (by omega) (by omega)
      go_wp2_with fail
      refine hs1.out.mono ?_
      rintro e w2 ⟨rfl, hb2⟩
      have HB2 := hid (bthen hB.out hb2)
      clear hb2 hs1 hB
      go_wp2_with fail
      refine (hs2.out _).mono ?_
      rintro e w3 ⟨rfl, rfl⟩
      go_wp2
      go_roundw
      case rel => exact ⟨c + 1, by go_num, by omega, HB2.out⟩
      case measure => simp [intOf]; omega
    · have hst := (HCs.out c hc).2 hlt
      obtain rfl : c = K := by omega
      have hsz := hid (fun W => HSl.out c W q1)
      have hsq := hid (fun W => HSz.out c W)
      have hle := lwc_le c
      have hse := shr_le c
      rcases hst with h17 | ⟨r1, r2⟩
      case' inl =>
        have h17' : ¬ (c : Int) < 17 := by omega
        clear HCs HSz HSl h17
        generalize lwc c = lk at *
        generalize shr c = sk at *
        go_wp2_with fail
      case' inr =>
        have r1' : (c : Int) < 17 := by omega
        have r2' : ¬ (lwc c : Int) + (shr c : Int) ≤ nv := by omega
        clear HCs HSz HSl
        generalize lwc c = lk at *
        generalize shr c = sk at *
        have q1' : wrap64 ((lk : Int) + (sk : Int)) = (lk : Int) + (sk : Int) := wrap_of (by omega) (by omega)
        go_wp2_with fail
        refine (hsz.out _).mono ?_
        rintro e w2 ⟨rfl, hb2⟩
        replace hB := hid (bthen hB.out hb2)
        clear hb2
        go_wp2_with fail
        refine (hsq.out _).mono ?_
        rintro e w3 ⟨rfl, rfl⟩
        go_wp2_with fail
      all_goals
        refine (hsz.out _).mono ?_
        rintro e w3 ⟨rfl, hb3⟩
        have HB3 := hid (bthen hB.out hb3)
        clear hb3 hB hle hse
        go_wp2_with fail
        refine (HTk.out _ (HR.out.later HB3.out)).mono ?_
        rintro e w4 ⟨⟨r, rfl⟩, hR4, hg4⟩
        have HR4 := hid hR4
        have HG4 := hid (grown_same (grown_of_below HB3.out (some g)) hg4)
        clear hR4 hg4 HTk HR HB3 hsz hsq
        by_cases hK0 : c = 0
        · obtain ⟨e1, e2⟩ := Hz0.out hK0
          have M1 := hid e1
          rw [e2] at HR4
          have kk : ((c : Int) == 0) = true := by subst hK0; rfl
          clear e1 e2 hK0 HM HF HZ HPs HUz Hf0 Hz0
          generalize (c : Int) = cI at *
          go_wp2
          go_ret
          exact ⟨by rw [M1.out]; rfl, HR4.out, HG4.out⟩
        · have e1 := Hf0.out hK0
          subst e1
          have kk : ((c : Int) == 0) = false := beq_eq_false_iff_ne.2 (by omega)
          clear hK0 Hf0 Hz0
          go_wp2_with fail
          refine (HPs.out _).mono ?_
          rintro e w5 ⟨vp, rfl, ho5, hb5⟩
          have HR5 := hid (HR4.out.later hb5)
          have HG5 := hid (grown_thenX HG4.out hb5)
          have HO5 := hid (ho5.mono (Nat.zero_le _))
          obtain ⟨ap, cp, rfl, _⟩ := ho5.sl
          rw [pcI_len]
          have hlen := pcI_len c
          rw [hlen] at HO5
          have Ht : Hid ((pcs c).take (pcs c).length = pcs c) := List.take_length
          have Hps := hid (fun j (hj : j < (pcs c).length) => ps_take (pcs c) j hj)
          have Hpg := hid (fun j (hj : j < (pcs c).length) => pcI_get c j hj)
          have hn2 := (pcs_facts q1).1
          clear ho5 hb5 HR4 HG4 HPs
          generalize (pcs c).length = n at *
          go_wp2_with fail
          go_loopw [5, 7] (fun z i wr => ∃ j : Nat, z = .int .i64 ((psN d1 1 ((pcs c).take j) : Nat) : Int) ∧ i = .int .i64 (j : Int) ∧ j ≤ n ∧ Hid (RS g (psD d1 ((pcs c).take j)) v wr) ∧ Hid (w.grownBy wr (some g)) ∧ Hid (Ow .i64 2 0 wr (.slice ap n cp) (pcI c))) (fun _ i _ => n - (intOf i).toNat)
          case atStart => exact ⟨0, rfl, rfl, Nat.zero_le _, HR5.out, HG5.out, HO5.out⟩
          case round =>
            clear HR5 HG5 HO5
            obtain ⟨j, rfl, rfl, hj, hR, hG, hO⟩ := hrel
            by_cases hlt2 : j < n
            · obtain ⟨hk1, hk8, _⟩ := HF.out j hlt2
              have hgI := Hpg.out j hlt2
              obtain ⟨a', cap', hv, hcs⟩ := hO.out.sl
              rw [hlen] at hv
              cases hv
              obtain ⟨b, off, rfl, hbl, hcell⟩ := hcs (by intro e; rw [e] at hlen; simp at hlen; omega)
              have hce := hcell j (by omega)
              rw [hgI] at hce
              have m1' := HM.out j hj
              have m2' := (HM.out (j + 1) (by omega)).2
              have Hpt := hid (Hps.out j hlt2)
              have hsn := psN_snoc d1 1 ((pcs c).take j) ((pcs c).getD j 0)
              rw [← Hpt.out] at hsn
              have HD := hid hsn.2
              have hz := hsn.1
              obtain ⟨hp0, hp1⟩ := pN_lt m1'.1 hk8
              have ht := tw_le hk8
              have ht0 := tw_pos ((pcs c).getD j 0)
              have HTw := hid (fun W => l4Two_calls ((pcs c).getD j 0) W (by omega))
              have HVv := hid (fun W (hW : RS g (psD d1 ((pcs c).take j)) v W) => val_calls g _ v (m + 3) (tw ((pcs c).getD j 0) : Int) W hW m1'.1 (by omega) (by omega))
              have hsf : sF (pN (psD d1 ((pcs c).take j)) ((pcs c).getD j 0) : Int) 1 (tw ((pcs c).getD j 0) : Int) = 0 := sF_of (pSl_ok hk8 hp0)
              have HTt := hid (fun W (hW : RS g (psD d1 ((pcs c).take j)) v W) => tak_calls g _ v (m + 3) (pN (psD d1 ((pcs c).take j)) ((pcs c).getD j 0) : Int) 1 (tw ((pcs c).getD j 0) : Int) W hW m1'.1 (by omega) hsf (by rw [hp1]; exact Int.le_refl _) (by rw [hp1]; exact Int.lt_succ _))
              rw [show nV (psD d1 ((pcs c).take j)).rst (psD d1 ((pcs c).take j)).rng (tw ((pcs c).getD j 0) : Int) = (pN (psD d1 ((pcs c).take j)) ((pcs c).getD j 0) : Int) from hp1.symm] at HVv
              rw [pD_eq, ← HD.out] at HTt
              have hz2 : psN d1 1 ((pcs c).take (j + 1)) = psN d1 1 ((pcs c).take j) * tw ((pcs c).getD j 0) + pN (psD d1 ((pcs c).take j)) ((pcs c).getD j 0) := hz
              clear hcs hcell hgI hsn Hpt hz hsf hp0 hp1
              generalize hk : (pcs c).getD j 0 = k at *
              clear hk
              generalize hZ0 : psN d1 1 ((pcs c).take j) = Z at *
              generalize hZ1 : psN d1 1 ((pcs c).take (j + 1)) = Z' at *
              have HZ1 := hid hZ1
              generalize pN (psD d1 ((pcs c).take j)) k = N at *
              generalize tw k = T at *
              clear hZ0 hZ1
              have hjI : (j : Int) < (n : Int) := by omega
              have hY : 0 ≤ (Z : Int) * (T : Int) ∧ (Z : Int) * (T : Int) + (N : Int) = (Z' : Int) ∧ (Z' : Int) ≤ 131071 := by
                have e : ((Z * T : Nat) : Int) = (Z : Int) * (T : Int) := Int.natCast_mul _ _
                rw [← e]
                generalize Z * T = Y at *
                omega
              generalize hYY : (Z : Int) * (T : Int) = Y at *
              obtain ⟨y0, y1, y2⟩ := hY
              obtain ⟨s3, s4⟩ := wr_two hYY y0 y1 (Int.natCast_nonneg N) y2
              clear hz2 m1' m2' hk1 hk8 y1 hYY ht ht0
              go_wp2_with fail
              refine (HTw.out _).mono ?_
              rintro e w6 ⟨rfl, rfl⟩
              go_wp2_with fail
              refine (HVv.out _ hR.out).mono ?_
              rintro e w7 ⟨rfl, mm, rfl⟩
              have HR7 := hid (hR.out.drewN mm)
              have HG7 := hid (grown_drewN hG.out mm)
              have HO7 : Hid (Ow .i64 2 0 (w6.drewN mm) (.slice (some ⟨b, off, none⟩) n cp) (pcI c)) := hO.out
              clear hR hG hO HTw HVv
              go_wp2_with fail
              generalize w6.drewN mm = w8 at *
              refine (HTt.out _ HR7.out).mono ?_
              rintro e w9 ⟨⟨r9, rfl⟩, hR9, hg9⟩
              have HR9 := hid hR9
              have HG9 := hid (grown_same HG7.out hg9)
              have HO9 := hid (ow_apart HO7.out HR7.out.k (by decide) hg9)
              clear hR9 hg9 HR7 HG7 HO7 HTt
              go_wp2
              go_roundw
              case rel => exact ⟨j + 1, (by rw [HZ1.out]; first | rfl | rw [s4]), by go_num, by omega, HR9.out, HG9.out, HO9.out⟩
              case measure => simp [intOf]; omega
            · obtain rfl : j = n := by omega
              rw [Ht.out] at hR ⊢
              rw [HZ.out.1]
              have HRz : Hid (RS g (zD d) v wr) := by rw [← HZ.out.2]; exact hR.out
              have HGz := hid hG.out
              clear hR hG hO HF HM hlen HZ
              generalize hu : uz (zN d) = uu at *
              have Hu := hid hu
              clear hu Hzl
              go_wp2_with fail
              refine (HUz.out _).mono ?_
              rintro e w10 ⟨rfl, rfl⟩
              go_wp2
              go_ret
              exact ⟨by rw [Hu.out]; rfl, HRz.out, HGz.out⟩
end Go.Proofs.YthecfboplfmdmaaDoor.RdS
