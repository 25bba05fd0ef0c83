/- The program's reader: a value is read. -/
import Derived.Test.YthecfboplfmdmaaDoorRdJ
namespace Go.Proofs.YthecfboplfmdmaaDoor.RdK
open Go.ChangeShapes Go.WideShapes Go.ChangeAt Go.RowKit Go.Proofs.YthecfboplfmdmaaDoor.Num Go.Proofs.YthecfboplfmdmaaDoor.Sli Go.Proofs.YthecfboplfmdmaaDoor.App Go.Proofs.YthecfboplfmdmaaDoor.Byt Go.Proofs.YthecfboplfmdmaaDoor.CrcM Go.Proofs.YthecfboplfmdmaaDoor.Div Go.Proofs.YthecfboplfmdmaaDoor.Dec Go.Proofs.YthecfboplfmdmaaDoor.Blk Go.Proofs.YthecfboplfmdmaaDoor.TakS Go.Proofs.YthecfboplfmdmaaDoor.TakT Go.Proofs.YthecfboplfmdmaaDoor.SlS Go.Proofs.YthecfboplfmdmaaDoor.ValZ Go.Proofs.YthecfboplfmdmaaDoor.ValI Go.Proofs.YthecfboplfmdmaaDoor.ValJ Go.Proofs.YthecfboplfmdmaaDoor.ValK Go.Proofs.YthecfboplfmdmaaDoor.ValM Go.Proofs.YthecfboplfmdmaaDoor.RdM Go.Proofs.YthecfboplfmdmaaDoor.RdI Go.Proofs.YthecfboplfmdmaaDoor.RdJ

theorem psN_snoc (d : Dv) (z : Nat) (ps : List Nat) (k : Nat) : psN d z (ps ++ [k]) = psN d z ps * 2 ^ k + pN (psD d ps) k ∧ psD d (ps ++ [k]) = pD (psD d ps) k := by
  induction ps generalizing d z with
  | nil => exact ⟨rfl, rfl⟩
  | cons x t ih => exact ih (pD d x) (z * 2 ^ x + pN d x)
theorem ps_take (ps : List Nat) (j : Nat) (hj : j < ps.length) : ps.take (j + 1) = ps.take j ++ [ps.getD j 0] := by
  rw [List.take_add_one, List.getElem?_eq_getElem hj, List.getD_eq_getElem?_getD, List.getElem?_eq_getElem hj]
  rfl
theorem zN_ps (d : Dv) : psN (kD d) (fD (kN d)) (pcs (kN d)) = zN d ∧ psD (kD d) (pcs (kN d)) = zD d := by
  refine ⟨?_, rfl⟩
  unfold zN fD
  by_cases h : kN d = 0
  · rw [if_pos h, if_pos h, h]; rfl
  · rw [if_neg h, if_neg h]
/-- What is read so far. -/
theorem mid_ok {d : Dv} {m : Nat} (h : dOk d m) (hm : m ≤ 300) (j : Nat) (hj : j ≤ (pcs (kN d)).length) :
    dOk (psD (kD d) ((pcs (kN d)).take j)) (m + 3) ∧ psN (kD d) (fD (kN d)) ((pcs (kN d)).take j) ≤ 131071 := by
  obtain ⟨h1, _⟩ := kN_lt h
  obtain ⟨_, _, h3, h4⟩ := k_ok h (by omega)
  obtain ⟨p1, p2⟩ := pcs_bd h1
  have hp : ∀ k ∈ (pcs (kN d)).take j, k ≤ 8 := fun k hk => (p2 k (List.mem_of_mem_take hk)).2
  have hl : ((pcs (kN d)).take j).length ≤ 2 := by rw [List.length_take]; omega
  obtain ⟨r1, _⟩ := ps_ok h3 (by omega) hp
  refine ⟨⟨r1.f, r1.x, by have := r1.a; omega⟩, ?_⟩
  have hf : fD (kN d) < 2 ^ 1 := by unfold fD; split <;> omega
  have hn := psN_lt (s := 1) h3 (by omega) hp hf
  have hs : ((pcs (kN d)).take j).sum ≤ 16 := by
    have e1 : ((pcs (kN d)).take j).sum + ((pcs (kN d)).drop j).sum = (pcs (kN d)).sum := by rw [← List.sum_append, List.take_append_drop]
    have e2 := (pcs_facts h1).2.1
    omega
  have h17 : 2 ^ (1 + ((pcs (kN d)).take j).sum) ≤ 2 ^ 17 := Nat.pow_le_pow_right (by decide) (by omega)
  omega
set_option maxRecDepth 100000 in
set_option maxHeartbeats 4000000 in
theorem value_calls (g : Nat) (d : Dv) (v : Value) (m : Nat) (w : World) (h : RB g d v w) (hd : dOk d m) (hm : m ≤ 300) :
    Calls Tryd.prog 57 #[.pointer (some ⟨g, 0, none⟩)] w fun e w' => (zN d ≤ 131070 → e = .returned (.int .i64 (uz (zN d))) ∧ ∃ v', RB g (zD d) v' w' ∧ w.grownBy w' (some g)) ∧ (131070 < zN d → (∃ pv, e = .panicked [{ v := .iface 9 pv, recovered := false }]) ∧ w.grownBy w' (some g)) := by
  have HC := hid (class_calls g d v m w h hd (by omega))
  have hkl := (kN_lt hd).1
  have HFd := hid (firstDigit_calls (kN d))
  have HPs := hid (fun W => pieces_calls (kN d) W hkl)
  have HM := hid (fun j hj => mid_ok hd hm j hj)
  have HZ := hid (zN_ps d)
  have HF := hid (pcs_facts hkl).2.2
  have hpl := (pcs_facts hkl).1
  have HIU := hid implUnzig_calls
  have Hzl := hid (zN_lt hd hm)
  have hgl := h.k.lt
  clear h hd
  generalize hfd : fD (kN d) = f0 at *
  generalize hkd : kD d = d1 at *
  generalize hkn : kN d = K at *
  clear hfd hkd hkn
  go_enter Tryd.func57, Tryd.ntmps57
  go_wp2_with fail
  refine HC.out.mono ?_
  rintro e w1 ⟨rfl, v1, hR1, hg1⟩
  have HR1 := hid hR1
  have HG1 := hid hg1
  clear hR1 hg1 HC
  go_wp2_with fail
  refine (HFd.out _).mono ?_
  rintro e w2 ⟨rfl, rfl⟩
  go_wp2_with fail
  refine (HPs.out _).mono ?_
  rintro e w2 ⟨vp, rfl, ho2, hb2⟩
  have HR2 := hid (HR1.out.later hb2)
  have HG2 := hid (grown_thenX HG1.out hb2)
  have HO2 := hid (ho2.mono (Nat.zero_le _))
  obtain ⟨ap, cp, rfl, _⟩ := ho2.sl
  rw [pcI_len]
  have hlen := pcI_len K
  rw [hlen] at HO2
  clear ho2 hb2 HR1 HG1 HFd HPs
  go_wp2_with fail
  go_loopw [4, 15] (fun z i wr => ∃ (j : Nat) (u : Value), z = .int .i64 ((psN d1 f0 ((pcs K).take j) : Nat) : Int) ∧ i = .int .i64 (j : Int) ∧ j ≤ (pcs K).length ∧ Hid (RB g (psD d1 ((pcs K).take j)) u wr) ∧ Hid (w.grownBy wr (some g)) ∧ Hid (Ow .i64 2 0 wr (.slice ap (pcs K).length cp) (pcI K))) (fun _ i _ => (pcs K).length - (intOf i).toNat)
  case atStart => exact ⟨0, v1, rfl, rfl, Nat.zero_le _, HR2.out, HG2.out, HO2.out⟩
  case round =>
    clear HR2 HG2 HO2
    obtain ⟨j, u, rfl, rfl, hj, hR, hG, hO⟩ := hrel
    by_cases hlt : j < (pcs K).length
    · obtain ⟨hk1, hk8, _⟩ := HF.out j hlt
      have hgI := pcI_get K j hlt
      obtain ⟨a', cap', hv, hcs⟩ := hO.out.sl
      rw [hlen] at hv
      cases hv
      obtain ⟨b, off, rfl, hbl, hcell⟩ := hcs (by intro e; rw [e] at hlen; simp at hlen; omega)
      have hce := hcell j (by omega)
      rw [hgI] at hce
      have m1 := HM.out j hj
      have m2 := (HM.out (j + 1) (by omega)).2
      have Hpt := hid (ps_take (pcs K) j hlt)
      have hsn := psN_snoc d1 f0 ((pcs K).take j) ((pcs K).getD j 0)
      rw [← Hpt.out] at hsn
      have HD := hid hsn.2
      have hz := hsn.1
      have HPc := hid (fun W (hW : RB g (psD d1 ((pcs K).take j)) u W) => piece_calls g _ u ((pcs K).getD j 0) (m + 3) W hW m1.1 (by omega) hk8)
      have hp0 := (pN_lt m1.1 hk8).1
      clear hcs hcell hgI hsn Hpt
      generalize hk : (pcs K).getD j 0 = k at *
      clear hk
      generalize hZ0 : psN d1 f0 ((pcs K).take j) = Z at *
      generalize hZ1 : psN d1 f0 ((pcs K).take (j + 1)) = Z' at *
      have HZ1 := hid hZ1
      generalize pN (psD d1 ((pcs K).take j)) k = N at *
      clear hZ0 hZ1
      have hkI : 1 ≤ (k : Int) ∧ (k : Int) ≤ 8 := by omega
      have hjI : (j : Int) < ((pcs K).length : Int) := by omega
      obtain ⟨hk0, hk9⟩ := hkI
      have hY : 0 ≤ (Z : Int) * 2 ^ k ∧ (Z : Int) * 2 ^ k + (N : Int) = (Z' : Int) ∧ (Z' : Int) ≤ 131071 := by
        have e : ((Z * 2 ^ k : Nat) : Int) = (Z : Int) * 2 ^ k := by push_cast; rfl
        rw [← e]
        generalize Z * 2 ^ k = Y at *
        omega
      generalize hYY : (Z : Int) * 2 ^ k = Y at *
      obtain ⟨y0, y1, y2⟩ := hY
      have s1 : IntKind.i64.wrap ((Z : Int) * 2 ^ k) = Y := by rw [hYY]; exact wrapk_of (by omega) (by omega)
      have s2 : IntKind.i64.wrap (Y + (N : Int)) = (Z' : Int) := by rw [y1]; exact wrapk_of (by omega) (by omega)
      have s3 : wrap64 ((Z : Int) * 2 ^ k) = Y := by rw [hYY]; exact wrap_of (by omega) (by omega)
      have s4 : wrap64 (Y + (N : Int)) = (Z' : Int) := by rw [y1]; exact wrap_of (by omega) (by omega)
      clear hz hp0 m1 m2 hk1 hk8 y1 hYY
      go_wp2_with fail
      refine wp_region_noPanic ?_
      refine wp_region_held_drew (S := fun _ => True) (by kernel_rfl) trivial (fun hHeld => ?_)
      (refine wpAnyH_take (i := 0) (v := ?_) rfl (by kernel_rfl) (by kernel_rfl) (by kernel_rfl) (fun _ _ _ h => h) (Or.inl ⟨by rfl, ?_⟩) hHeld ?_; rotate_left; (intro w hSw; skip; (go_simp <;> with_reducible rfl)); simp only [List.getElem_toArray, List.getElem_cons_zero, Act.put, List.setIfInBounds_toArray, List.set_cons_zero, List.set_cons_succ])
      (refine wpAnyH_take (i := 1) (v := ?_) rfl (by kernel_rfl) (by kernel_rfl) (by kernel_rfl) (fun _ _ _ h => h) (Or.inl ⟨by rfl, ?_⟩) hHeld ?_; rotate_left; (intro w hSw; skip; (go_simp <;> with_reducible rfl)); simp only [List.getElem_toArray, List.getElem_cons_zero, List.getElem_cons_succ, Act.put, List.setIfInBounds_toArray, List.set_cons_zero, List.set_cons_succ])
      (refine wpAnyH_take (i := 2) (v := ?_) rfl (by kernel_rfl) (by kernel_rfl) (by kernel_rfl) (fun _ _ _ h => h) (Or.inl ⟨by rfl, ?_⟩) hHeld ?_; rotate_left; (intro w hSw; skip; (go_simp <;> with_reducible rfl)); simp only [List.getElem_toArray, List.getElem_cons_zero, List.getElem_cons_succ, Act.put, List.setIfInBounds_toArray, List.set_cons_zero, List.set_cons_succ])
      (refine wpAnyH_take (i := 3) (v := ?_) rfl (by kernel_rfl) (by kernel_rfl) (by kernel_rfl) (fun _ _ _ h => h) (Or.inl ⟨by rfl, ?_⟩) hHeld ?_; rotate_left; (intro w hSw; skip; (go_simp <;> with_reducible rfl)); simp only [List.getElem_toArray, List.getElem_cons_zero, List.getElem_cons_succ, Act.put, List.setIfInBounds_toArray, List.set_cons_zero, List.set_cons_succ])
      (refine wpAnyH_take (i := 4) (v := ?_) rfl (by kernel_rfl) (by kernel_rfl) (by kernel_rfl) (fun _ _ _ h => h) (Or.inl ⟨by rfl, ?_⟩) hHeld ?_; rotate_left; (intro w hSw; skip; (go_simp <;> with_reducible rfl)); simp only [List.getElem_toArray, List.getElem_cons_zero, List.getElem_cons_succ, Act.put, List.setIfInBounds_toArray, List.set_cons_zero, List.set_cons_succ])
      refine wpAnyH_ready (rs := [5]) (by kernel_rfl) (by simp) ?_
      refine (AllReadyH.cons rfl (fun K hK => ?_) AllReadyH.nil)
      go_simp
      (refine (HPc.out _ hR.out.drew).mono ?_; rintro e w9 ⟨rfl, v9, hR9, hg9⟩)
      refine hK.out _ _ trivial (fun hHeld => ?_)
      clear hK K
      try dsimp only
      (refine wpAnyH_take (i := 6) (v := ?_) rfl (by kernel_rfl) (by kernel_rfl) (by kernel_rfl) (fun _ _ _ h => h) (Or.inl ⟨by rfl, ?_⟩) hHeld ?_; rotate_left; (intro w hSw; skip; (go_simp <;> with_reducible rfl)); simp only [List.getElem_toArray, List.getElem_cons_zero, List.getElem_cons_succ, Act.put, List.setIfInBounds_toArray, List.set_cons_zero, List.set_cons_succ])
      (refine wpAnyH_take (i := 7) (v := ?_) rfl (by kernel_rfl) (by kernel_rfl) (by kernel_rfl) (fun _ _ _ h => h) (Or.inl ⟨by rfl, ?_⟩) hHeld ?_; rotate_left; (intro w hSw; skip; (go_simp <;> with_reducible rfl)); simp only [List.getElem_toArray, List.getElem_cons_zero, List.getElem_cons_succ, Act.put, List.setIfInBounds_toArray, List.set_cons_zero, List.set_cons_succ])
      refine wpAnyH_done (by kernel_rfl) ?_ _
      refine NoPanic.normal ?_
      have HR9 : Hid (RB g (psD d1 ((pcs K).take (j + 1))) v9 w9) := by rw [HD.out]; exact hR9
      have HG9 : Hid (w.grownBy w9 (some g)) := grown_same (grown_drew1 hG.out) hg9
      have HO9 : Hid (Ow .i64 2 0 w9 (.slice (some ⟨b, off, none⟩) (pcs K).length cp) (pcI K)) := ow_apart (w := wr.drew) hO.out hR.out.drew.k (by decide) hg9
      clear hR9 hg9 hR hG hO HPc hHeld
      go_wp2
      go_roundw
      case rel => exact ⟨j + 1, v9, (by rw [HZ1.out]), by go_num, by omega, HR9.out, HG9.out, HO9.out⟩
      case measure => simp [intOf]; omega
    · obtain rfl : j = (pcs K).length := by omega
      rw [List.take_length] at *
      rw [HZ.out.1]
      have HRz : Hid (RB g (zD d) u wr) := by rw [← HZ.out.2]; exact hR.out
      have HGz := hid hG.out
      have HUn := hid (HIU.out (zN d : Int) wr)
      clear hR hG hO HF HM hlen HZ
      generalize (pcs K).length = n at *
      by_cases hz : zN d ≤ 131070
      · have e1 : uC (zN d : Int) = 0 := if_pos (inB_yes (by omega) (by omega))
        have e2 : uO (zN d : Int) = uz (zN d) := (if_pos (inB_yes (by omega) (by omega))).trans (by rw [Int.toNat_natCast])
        rw [e1, e2] at HUn
        have Hz := hid hz
        clear e1 e2 hz Hzl
        generalize hu : uz (zN d) = uu at *
        have Hu := hid hu
        clear hu
        go_wp2_with fail
        refine HUn.out.mono ?_
        rintro e w10 ⟨rfl, hb10⟩
        have HR10 := hid ((HRz.out.later hb10).later (bmore (Below.refl _ _) (.cells #[.int .i64 0, .int .i64 uu] 70)))
        have HG10 := hid (grown_thenX HGz.out (bmore hb10 (.cells #[.int .i64 0, .int .i64 uu] 70)))
        clear hb10 HUn HRz HGz
        go_wp2
        go_ret
        exact ⟨fun _ => ⟨by rw [Hu.out]; rfl, u, HR10.out, HG10.out⟩, fun h => absurd Hz.out (by omega)⟩
      · have e1 : uC (zN d : Int) = 3 := if_neg (by rw [inB_no (by omega)]; decide)
        have e2 : uO (zN d : Int) = 0 := if_neg (by rw [inB_no (by omega)]; decide)
        rw [e1, e2] at HUn
        have Hz := hid hz
        clear e1 e2 hz Hzl
        go_wp2_with fail
        refine HUn.out.mono ?_
        rintro e w10 ⟨rfl, hb10⟩
        have HG10 := hid (grown_thenX HGz.out (bmore hb10 (.cells #[.int .i64 3, .int .i64 0] 70)))
        clear hb10 HUn HRz HGz
        go_wp2
        exact ⟨rfl, fun h => absurd h Hz.out, fun _ => ⟨⟨_, rfl⟩, HG10.out⟩⟩
end Go.Proofs.YthecfboplfmdmaaDoor.RdK
