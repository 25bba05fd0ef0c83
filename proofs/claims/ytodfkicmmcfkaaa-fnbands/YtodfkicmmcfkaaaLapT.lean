/- The model's seam: both sides of it, turned ahead or turned back. Conditions: a right size, lists of half of it, numbers within MaxWide. -/
import Derived.Test.YtodfkicmmcfkaaaLapS
import Derived.Test.YtodfkicmmcfkaaaHalS
namespace Go.Proofs.Ytodfkicmmcfkaaa.LapT
open Go.ChangeShapes Go.WideShapes Go.ChangeAt Go.RowKit Go.Proofs.Ytodfkicmmcfkaaa.Num Go.Proofs.Ytodfkicmmcfkaaa.Sli Go.Proofs.Ytodfkicmmcfkaaa.App Go.Proofs.Ytodfkicmmcfkaaa.Div Go.Proofs.Ytodfkicmmcfkaaa.Samp Go.Proofs.Ytodfkicmmcfkaaa.Blk Go.Proofs.Ytodfkicmmcfkaaa.TurM Go.Proofs.Ytodfkicmmcfkaaa.TurS Go.Proofs.Ytodfkicmmcfkaaa.HalM Go.Proofs.Ytodfkicmmcfkaaa.LapM Go.Proofs.Ytodfkicmmcfkaaa.LapN Go.Proofs.Ytodfkicmmcfkaaa.IntL Go.Proofs.Ytodfkicmmcfkaaa.IntA Go.Proofs.Ytodfkicmmcfkaaa.HalS
/-- The second list is written from its beginning on. -/
def sbS (m k : Nat) (v : Nat → Int) : List Int := mkL m (fun j => if j < k then v j else 0)
theorem sbS_len (m k : Nat) (v : Nat → Int) : (sbS m k v).length = m := mkL_len _ _
theorem sbS_zero (m : Nat) (v : Nat → Int) : sbS m 0 v = List.replicate m 0 := by
  apply ext_g (by rw [sbS_len, List.length_replicate])
  intro i hi
  rw [sbS_len] at hi
  rw [show (sbS m 0 v).getD i 0 = if i < 0 then v i else 0 from mkL_get _ hi, if_neg (by omega), zero_get]
theorem sbS_end (m : Nat) (v : Nat → Int) : sbS m m v = mkL m v := mkL_congr (fun _ hi => if_pos hi)
theorem sbS_set (m k : Nat) (v : Nat → Int) : (sbS m k v).set k (v k) = sbS m (k + 1) v := by
  apply ext_g (by simp [sbS_len])
  intro j hj
  simp only [List.length_set, sbS_len] at hj
  rw [getD_set _ _ _ _ (by simpa [sbS_len] using hj)]
  unfold sbS
  rw [mkL_get _ hj, mkL_get _ hj]
  by_cases e : k = j
  · subst e; rw [if_pos rfl, if_pos (by omega)]
  · rw [if_neg e]
    by_cases e2 : j < k
    · rw [if_pos e2, if_pos (by omega)]
    · rw [if_neg e2, if_neg (by omega)]
set_option maxHeartbeats 4000000 in
theorem seamAhead_calls (s : Int) (vl vf : Value) (l f : List Int) (w : World) (hz : szF s = 0) (hl : Sl .i64 w vl l) (hf : Sl .i64 w vf f) (nl : l.length = hN s) (nf : f.length = hN s) (ll : lim 137438953472 l) (lf : lim 137438953472 f) :
    Calls Try.prog 67 #[.int .i64 s, vl, vf, .bool false] w fun e w' => ∃ ga gb, e = .returned (.tuple #[.slice (some ⟨ga, 0, none⟩) (hN s : Nat) (hN s : Nat), .slice (some ⟨gb, 0, none⟩) (hN s : Nat) (hN s : Nat)]) ∧ HK w (hN s) ga (hN s) gb (hN s) (smA (ahF s.toNat) (hN s) l f) (smB (ahF s.toNat) (hN s) l f) w' := by
  obtain ⟨_, e1, e2, e3, e4, e5⟩ := sz_nat hz
  have hm0 : s.tdiv 2 = (hN s : Int) := by rw [Int.tdiv_eq_ediv_of_nonneg (by omega)]; exact e5
  have hbd : 4 ≤ s ∧ s ≤ 16 := by omega
  have hm8 : hN s ≤ 8 ∧ 2 ≤ hN s := by omega
  have HZ := hid (fun W => zeros_calls (hN s) W (by omega))
  have HT := hid (fun k (hk : k < hN s) => turn_at hz hk)
  rw [e1] at HT
  have hnl : l ≠ [] := by intro e; rw [e] at nl; simp at nl; omega
  have hnf : f ≠ [] := by intro e; rw [e] at nf; simp at nf; omega
  obtain ⟨a1, cap1, rfl, hc1⟩ := hl
  obtain ⟨b1, off1, rfl, hb1, hcell1⟩ := hc1 hnl
  obtain ⟨a2, cap2, rfl, hc2⟩ := hf
  obtain ⟨b2, off2, rfl, hb2, hcell2⟩ := hc2 hnf
  rw [nl] at hcell1 ⊢
  rw [nf] at hcell2 ⊢
  have HC1 := hid hcell1
  have HC2 := hid hcell2
  have HL1 := hid ll
  have HL2 := hid lf
  have HA : Hid (∀ k, k < hN s → (fun j => (ahF s.toNat (hN s - 1 - j) (l.getD j 0) (f.getD (hN s - 1 - j) 0)).1) (hN s - 1 - k) = ahA (pV s (k : Int)) (uV s (k : Int)) (l.getD (hN s - 1 - k) 0) (f.getD k 0)) := by
    intro k hk
    show (ahF s.toNat (hN s - 1 - (hN s - 1 - k)) (l.getD (hN s - 1 - k) 0) (f.getD (hN s - 1 - (hN s - 1 - k)) 0)).1 = _
    rw [show hN s - 1 - (hN s - 1 - k) = k by omega]
    show ahA (pV (s.toNat : Int) (k : Int)) (uV (s.toNat : Int) (k : Int)) _ _ = _
    rw [e1]
  have HB : Hid (∀ k, k < hN s → (fun i => (ahF s.toNat i (l.getD (hN s - 1 - i) 0) (f.getD i 0)).2) k = ahB (pV s (k : Int)) (uV s (k : Int)) (l.getD (hN s - 1 - k) 0) (f.getD k 0)) := by
    intro k hk
    show ahB (pV (s.toNat : Int) (k : Int)) (uV (s.toNat : Int) (k : Int)) _ _ = _
    rw [e1]
  have HEA : Hid (mkL (hN s) (fun j => (ahF s.toNat (hN s - 1 - j) (l.getD j 0) (f.getD (hN s - 1 - j) 0)).1) = smA (ahF s.toNat) (hN s) l f) := rfl
  have HEB : Hid (mkL (hN s) (fun i => (ahF s.toNat i (l.getD (hN s - 1 - i) 0) (f.getD i 0)).2) = smB (ahF s.toNat) (hN s) l f) := rfl
  generalize smA (ahF s.toNat) (hN s) l f = RA at *
  generalize smB (ahF s.toNat) (hN s) l f = RB at *
  generalize (fun j => (ahF s.toNat (hN s - 1 - j) (l.getD j 0) (f.getD (hN s - 1 - j) 0)).1) = fa at *
  generalize (fun i => (ahF s.toNat i (l.getD (hN s - 1 - i) 0) (f.getD i 0)).2) = fb at *
  clear e1 e2 e5 hz nl nf hc1 hc2 hcell1 hcell2 hnl hnf ll lf
  generalize hN s = m at *
  go_enter Try.func67, Try.ntmps67
  go_wp2_with fail
  refine (HZ.out _).mono ?_
  rintro e w1 ⟨rfl, ho1, hbw1⟩
  have HO1 := hid ho1
  have HB1 := hid hbw1
  have hg1 := (ho1.block w.heap.size rfl).2
  clear ho1 hbw1
  go_wp2_with fail
  refine (HZ.out _).mono ?_
  rintro e w2 ⟨rfl, ho2, hbw2⟩
  have HK0 : Hid (HK w m w.heap.size m w1.heap.size m (saS m 0 fa) (sbS m 0 fb) w2) := by
    rw [saS_zero, sbS_zero]
    exact ⟨by omega, HO1.out.later hbw2, ho2.mono HB1.out.size, bthen HB1.out hbw2⟩
  clear ho2 hbw2 HO1 HB1 HZ hg1
  generalize w.heap.size = ga at HK0 ⊢
  generalize w1.heap.size = gb at HK0 ⊢
  go_wp2_with fail
  go_loopw [13] (fun i wr => ∃ k : Nat, i = .int .i64 (k : Int) ∧ k ≤ m ∧ Hid (HK w m ga m gb m (saS m k fa) (sbS m k fb) wr)) (fun i _ => m - (intOf i).toNat)
  case atStart => exact ⟨0, rfl, Nat.zero_le _, HK0.out⟩
  case round =>
    obtain ⟨k, rfl, hk, hK⟩ := hrel
    clear HK0
    by_cases hlt : k < m
    · obtain ⟨q, hq⟩ : ∃ q : Nat, m - 1 - k = q := ⟨_, rfl⟩
      have hqI : (m : Int) - 1 - (k : Int) = (q : Int) := by omega
      have hqm : q < m := by omega
      have c1 := (hK.out.b.cell (p := ⟨b1, off1 + q, none⟩) hb1).trans (HC1.out q hqm)
      have c2 := (hK.out.b.cell (p := ⟨b2, off2 + k, none⟩) hb2).trans (HC2.out k hlt)
      have hx := HL1.out q
      have hy := HL2.out k
      have v1 := HA.out k hlt
      have v2 := HB.out k hlt
      rw [hq] at v1 v2
      have HTj := hid (fun W => l5Turn_calls s (k : Int) (l.getD q 0) (f.getD k 0) W (HT.out k hlt) (by omega) (by omega))
      rw [← v1, ← v2] at HTj
      have hsa := saS_set hlt fa
      rw [hq] at hsa
      have HSA := hid hsa
      have HSB := hid (sbS_set m k fb)
      have Hlen : Hid (m = (saS m k fa).length ∧ m = (sbS m k fb).length) := ⟨(saS_len _ _ _).symm, (sbS_len _ _ _).symm⟩
      have e1 : IntKind.i64.wrap ((m : Int) - 1) = (m : Int) - 1 := wrapk_of (by omega) (by omega)
      have e2 : IntKind.i64.wrap (q : Int) = (q : Int) := wrapk_of (by omega) (by omega)
      have hkI : (k : Int) < (m : Int) := by omega
      have hqI2 : (q : Int) < (m : Int) := by omega
      have hmI : (m : Int) ≤ 8 := by omega
      have hL0 : Below wr.heap.size wr wr.drew := (Below.refl _ wr).drew
      have hs1 : b1 < wr.heap.size := Nat.lt_of_lt_of_le hb1 hK.out.b.size
      have hs2 : b2 < wr.heap.size := Nat.lt_of_lt_of_le hb2 hK.out.b.size
      have HKd := hid hK.out.drew
      clear v1 v2 hsa hx hy hq hK HC1 HC2 HL1 HL2 HA HB HT HEA HEB
      generalize l.getD q 0 = x at *
      generalize f.getD k 0 = y at *
      go_wp2_with fail
      refine wp_region_noPanic ?_
      refine wp_region_held_drew (S := fun W => Below wr.heap.size wr W) (by kernel_rfl) ?_ (fun hHeld => ?_)
      · assumption
      (refine wpAnyH_take (i := 0) (v := ?_) rfl (by kernel_rfl) (by kernel_rfl) (by kernel_rfl) (fun _ _ _ h => h) (Or.inl ⟨by rfl, ?_⟩) hHeld ?_; rotate_left; (intro w hSw; (have s1 := (hSw.cell (p := ⟨b1, off1 + q, none⟩) hs1).trans c1; have s2 := (hSw.cell (p := ⟨b2, off2 + k, none⟩) hs2).trans c2; clear hSw); (go_simp <;> with_reducible rfl)); simp only [List.getElem_toArray, List.getElem_cons_zero, Act.put, List.setIfInBounds_toArray, List.set_cons_zero, List.set_cons_succ])
      (refine wpAnyH_take (i := 1) (v := ?_) rfl (by kernel_rfl) (by kernel_rfl) (by kernel_rfl) (fun _ _ _ h => h) (Or.inl ⟨by rfl, ?_⟩) hHeld ?_; rotate_left; (intro w hSw; (have s1 := (hSw.cell (p := ⟨b1, off1 + q, none⟩) hs1).trans c1; have s2 := (hSw.cell (p := ⟨b2, off2 + k, none⟩) hs2).trans c2; clear hSw); (go_simp <;> with_reducible rfl)); simp only [List.getElem_toArray, List.getElem_cons_zero, List.getElem_cons_succ, Act.put, List.setIfInBounds_toArray, List.set_cons_zero, List.set_cons_succ])
      (refine wpAnyH_take (i := 2) (v := ?_) rfl (by kernel_rfl) (by kernel_rfl) (by kernel_rfl) (fun _ _ _ h => h) (Or.inl ⟨by rfl, ?_⟩) hHeld ?_; rotate_left; (intro w hSw; (have s1 := (hSw.cell (p := ⟨b1, off1 + q, none⟩) hs1).trans c1; have s2 := (hSw.cell (p := ⟨b2, off2 + k, none⟩) hs2).trans c2; clear hSw); (go_simp <;> with_reducible rfl)); simp only [List.getElem_toArray, List.getElem_cons_zero, List.getElem_cons_succ, Act.put, List.setIfInBounds_toArray, List.set_cons_zero, List.set_cons_succ])
      (refine wpAnyH_take (i := 3) (v := ?_) rfl (by kernel_rfl) (by kernel_rfl) (by kernel_rfl) (fun _ _ _ h => h) (Or.inl ⟨by rfl, ?_⟩) hHeld ?_; rotate_left; (intro w hSw; (have s1 := (hSw.cell (p := ⟨b1, off1 + q, none⟩) hs1).trans c1; have s2 := (hSw.cell (p := ⟨b2, off2 + k, none⟩) hs2).trans c2; clear hSw); (go_simp <;> with_reducible rfl)); simp only [List.getElem_toArray, List.getElem_cons_zero, List.getElem_cons_succ, Act.put, List.setIfInBounds_toArray, List.set_cons_zero, List.set_cons_succ])
      (refine wpAnyH_take (i := 4) (v := ?_) rfl (by kernel_rfl) (by kernel_rfl) (by kernel_rfl) (fun _ _ _ h => h) (Or.inl ⟨by rfl, ?_⟩) hHeld ?_; rotate_left; (intro w hSw; (have s1 := (hSw.cell (p := ⟨b1, off1 + q, none⟩) hs1).trans c1; have s2 := (hSw.cell (p := ⟨b2, off2 + k, none⟩) hs2).trans c2; clear hSw); (go_simp <;> with_reducible rfl)); simp only [List.getElem_toArray, List.getElem_cons_zero, List.getElem_cons_succ, Act.put, List.setIfInBounds_toArray, List.set_cons_zero, List.set_cons_succ])
      (refine wpAnyH_take (i := 5) (v := ?_) rfl (by kernel_rfl) (by kernel_rfl) (by kernel_rfl) (fun _ _ _ h => h) (Or.inl ⟨by rfl, ?_⟩) hHeld ?_; rotate_left; (intro w hSw; (have s1 := (hSw.cell (p := ⟨b1, off1 + q, none⟩) hs1).trans c1; have s2 := (hSw.cell (p := ⟨b2, off2 + k, none⟩) hs2).trans c2; clear hSw); (go_simp <;> with_reducible rfl)); simp only [List.getElem_toArray, List.getElem_cons_zero, List.getElem_cons_succ, Act.put, List.setIfInBounds_toArray, List.set_cons_zero, List.set_cons_succ])
      (refine wpAnyH_take (i := 6) (v := ?_) rfl (by kernel_rfl) (by kernel_rfl) (by kernel_rfl) (fun _ _ _ h => h) (Or.inl ⟨by rfl, ?_⟩) hHeld ?_; rotate_left; (intro w hSw; (have s1 := (hSw.cell (p := ⟨b1, off1 + q, none⟩) hs1).trans c1; have s2 := (hSw.cell (p := ⟨b2, off2 + k, none⟩) hs2).trans c2; clear hSw); (go_simp <;> with_reducible rfl)); simp only [List.getElem_toArray, List.getElem_cons_zero, List.getElem_cons_succ, Act.put, List.setIfInBounds_toArray, List.set_cons_zero, List.set_cons_succ])
      (refine wpAnyH_take (i := 7) (v := ?_) rfl (by kernel_rfl) (by kernel_rfl) (by kernel_rfl) (fun _ _ _ h => h) (Or.inl ⟨by rfl, ?_⟩) hHeld ?_; rotate_left; (intro w hSw; (have s1 := (hSw.cell (p := ⟨b1, off1 + q, none⟩) hs1).trans c1; have s2 := (hSw.cell (p := ⟨b2, off2 + k, none⟩) hs2).trans c2; clear hSw); (go_simp <;> with_reducible rfl)); simp only [List.getElem_toArray, List.getElem_cons_zero, List.getElem_cons_succ, Act.put, List.setIfInBounds_toArray, List.set_cons_zero, List.set_cons_succ])
      (refine wpAnyH_take (i := 8) (v := ?_) rfl (by kernel_rfl) (by kernel_rfl) (by kernel_rfl) (fun _ _ _ h => h) (Or.inl ⟨by rfl, ?_⟩) hHeld ?_; rotate_left; (intro w hSw; (have s1 := (hSw.cell (p := ⟨b1, off1 + q, none⟩) hs1).trans c1; have s2 := (hSw.cell (p := ⟨b2, off2 + k, none⟩) hs2).trans c2; clear hSw); (go_simp <;> with_reducible rfl)); simp only [List.getElem_toArray, List.getElem_cons_zero, List.getElem_cons_succ, Act.put, List.setIfInBounds_toArray, List.set_cons_zero, List.set_cons_succ])
      (refine wpAnyH_take (i := 9) (v := ?_) rfl (by kernel_rfl) (by kernel_rfl) (by kernel_rfl) (fun _ _ _ h => h) (Or.inl ⟨by rfl, ?_⟩) hHeld ?_; rotate_left; (intro w hSw; (have s1 := (hSw.cell (p := ⟨b1, off1 + q, none⟩) hs1).trans c1; have s2 := (hSw.cell (p := ⟨b2, off2 + k, none⟩) hs2).trans c2; clear hSw); (go_simp <;> with_reducible rfl)); simp only [List.getElem_toArray, List.getElem_cons_zero, List.getElem_cons_succ, Act.put, List.setIfInBounds_toArray, List.set_cons_zero, List.set_cons_succ])
      (refine wpAnyH_take (i := 10) (v := ?_) rfl (by kernel_rfl) (by kernel_rfl) (by kernel_rfl) (fun _ _ _ h => h) (Or.inl ⟨by rfl, ?_⟩) hHeld ?_; rotate_left; (intro w hSw; (have s1 := (hSw.cell (p := ⟨b1, off1 + q, none⟩) hs1).trans c1; have s2 := (hSw.cell (p := ⟨b2, off2 + k, none⟩) hs2).trans c2; clear hSw); (go_simp <;> with_reducible rfl)); simp only [List.getElem_toArray, List.getElem_cons_zero, List.getElem_cons_succ, Act.put, List.setIfInBounds_toArray, List.set_cons_zero, List.set_cons_succ])
      (refine wpAnyH_take (i := 11) (v := ?_) rfl (by kernel_rfl) (by kernel_rfl) (by kernel_rfl) (fun _ _ _ h => h) (Or.inl ⟨by rfl, ?_⟩) hHeld ?_; rotate_left; (intro w hSw; (have s1 := (hSw.cell (p := ⟨b1, off1 + q, none⟩) hs1).trans c1; have s2 := (hSw.cell (p := ⟨b2, off2 + k, none⟩) hs2).trans c2; clear hSw); (go_simp <;> with_reducible rfl)); simp only [List.getElem_toArray, List.getElem_cons_zero, List.getElem_cons_succ, Act.put, List.setIfInBounds_toArray, List.set_cons_zero, List.set_cons_succ])
      (refine wpAnyH_take (i := 12) (v := ?_) rfl (by kernel_rfl) (by kernel_rfl) (by kernel_rfl) (fun _ _ _ h => h) (Or.inl ⟨by rfl, ?_⟩) hHeld ?_; rotate_left; (intro w hSw; (have s1 := (hSw.cell (p := ⟨b1, off1 + q, none⟩) hs1).trans c1; have s2 := (hSw.cell (p := ⟨b2, off2 + k, none⟩) hs2).trans c2; clear hSw); (go_simp <;> with_reducible rfl)); simp only [List.getElem_toArray, List.getElem_cons_zero, List.getElem_cons_succ, Act.put, List.setIfInBounds_toArray, List.set_cons_zero, List.set_cons_succ])
      (refine wpAnyH_ready (rs := [13]) (by kernel_rfl) (by simp) ?_; refine AllReadyH.cons rfl (fun K hK => ?_) AllReadyH.nil; go_simp; (refine (HTj.out _).mono ?_; rintro e w9 ⟨rfl, rfl⟩); refine hK.out _ _ ?_ (fun hHeld => ?_); (assumption); clear hK K; try dsimp only)
      (refine wpAnyH_take (i := 14) (v := ?_) rfl (by kernel_rfl) (by kernel_rfl) (by kernel_rfl) (fun _ _ _ h => h) (Or.inl ⟨by rfl, ?_⟩) hHeld ?_; rotate_left; (intro w hSw; (have s1 := (hSw.cell (p := ⟨b1, off1 + q, none⟩) hs1).trans c1; have s2 := (hSw.cell (p := ⟨b2, off2 + k, none⟩) hs2).trans c2; clear hSw); (go_simp <;> with_reducible rfl)); simp only [List.getElem_toArray, List.getElem_cons_zero, List.getElem_cons_succ, Act.put, List.setIfInBounds_toArray, List.set_cons_zero, List.set_cons_succ])
      (refine wpAnyH_take (i := 15) (v := ?_) rfl (by kernel_rfl) (by kernel_rfl) (by kernel_rfl) (fun _ _ _ h => h) (Or.inl ⟨by rfl, ?_⟩) hHeld ?_; rotate_left; (intro w hSw; (have s1 := (hSw.cell (p := ⟨b1, off1 + q, none⟩) hs1).trans c1; have s2 := (hSw.cell (p := ⟨b2, off2 + k, none⟩) hs2).trans c2; clear hSw); (go_simp <;> with_reducible rfl)); simp only [List.getElem_toArray, List.getElem_cons_zero, List.getElem_cons_succ, Act.put, List.setIfInBounds_toArray, List.set_cons_zero, List.set_cons_succ])
      (refine wpAnyH_take (i := 16) (v := ?_) rfl (by kernel_rfl) (by kernel_rfl) (by kernel_rfl) (fun _ _ _ h => h) (Or.inl ⟨by rfl, ?_⟩) hHeld ?_; rotate_left; (intro w hSw; (have s1 := (hSw.cell (p := ⟨b1, off1 + q, none⟩) hs1).trans c1; have s2 := (hSw.cell (p := ⟨b2, off2 + k, none⟩) hs2).trans c2; clear hSw); (go_simp <;> with_reducible rfl)); simp only [List.getElem_toArray, List.getElem_cons_zero, List.getElem_cons_succ, Act.put, List.setIfInBounds_toArray, List.set_cons_zero, List.set_cons_succ])
      (refine wpAnyH_take (i := 17) (v := ?_) rfl (by kernel_rfl) (by kernel_rfl) (by kernel_rfl) (fun _ _ _ h => h) (Or.inl ⟨by rfl, ?_⟩) hHeld ?_; rotate_left; (intro w hSw; (have s1 := (hSw.cell (p := ⟨b1, off1 + q, none⟩) hs1).trans c1; have s2 := (hSw.cell (p := ⟨b2, off2 + k, none⟩) hs2).trans c2; clear hSw); (go_simp <;> with_reducible rfl)); simp only [List.getElem_toArray, List.getElem_cons_zero, List.getElem_cons_succ, Act.put, List.setIfInBounds_toArray, List.set_cons_zero, List.set_cons_succ])
      (refine wpAnyH_take (i := 18) (v := ?_) rfl (by kernel_rfl) (by kernel_rfl) (by kernel_rfl) (fun _ _ _ h => h) (Or.inl ⟨by rfl, ?_⟩) hHeld ?_; rotate_left; (intro w hSw; (have s1 := (hSw.cell (p := ⟨b1, off1 + q, none⟩) hs1).trans c1; have s2 := (hSw.cell (p := ⟨b2, off2 + k, none⟩) hs2).trans c2; clear hSw); (go_simp <;> with_reducible rfl)); simp only [List.getElem_toArray, List.getElem_cons_zero, List.getElem_cons_succ, Act.put, List.setIfInBounds_toArray, List.set_cons_zero, List.set_cons_succ])
      refine wpAnyH_done (by kernel_rfl) ?_ _
      refine NoPanic.normal ?_
      clear hHeld hL0 c1 c2 HTj
      generalize wr.drew = W1 at *
      obtain ⟨c1, f1⟩ := HKd.out.s.cellAt Hlen.out.1 q (by rw [← Hlen.out.1]; exact hqm)
      obtain ⟨c2, f2⟩ := HKd.out.d.cellAt Hlen.out.2 k (by rw [← Hlen.out.2]; exact hlt)
      have hne := HKd.out.ne
      have HK2 : Hid (HK w m ga m gb m (saS m (k + 1) fa) (sbS m (k + 1) fb) ((W1.setCell ⟨ga, q, none⟩ (.int .i64 (fa q))).setCell ⟨gb, k, none⟩ (.int .i64 (fb k)))) := by
        have hst1 := Ow.set HKd.out.s Hlen.out.1 q (fa q)
        have hd1 := Ow.keptNe HKd.out.d hst1.2 (fun i e => by simp [Value.ownBlock] at e ⊢; omega)
        have hst2 := Ow.set hd1 Hlen.out.2 k (fb k)
        have hs2 := Ow.keptNe hst1.1 hst2.2 (fun i e => by simp [Value.ownBlock] at e ⊢; omega)
        rw [HSA.out] at hs2
        have hd2 := hst2.1
        rw [HSB.out] at hd2
        exact ⟨hne, hs2, hd2, (HKd.out.b.setCell (p := ⟨ga, q, none⟩) (blk_of HKd.out.s).1 _).setCell (p := ⟨gb, k, none⟩) (blk_of HKd.out.d).1 _⟩
      clear HKd HSA HSB Hlen
      generalize (saS m k fa).getD q 0 = z1 at *
      generalize (sbS m k fb).getD k 0 = z2 at *
      generalize fa q = x' at *
      generalize fb k = y' at *
      go_wp2
      go_roundw
      case rel => exact ⟨k + 1, by go_num, by omega, HK2.out⟩
      case measure => simp [intOf]; omega
    · obtain rfl : k = m := by omega
      rw [saS_end, sbS_end, HEA.out, HEB.out] at hK
      go_wp2
      exact bodyPost_ret (v := .tuple #[.slice (some ⟨ga, 0, none⟩) k k, .slice (some ⟨gb, 0, none⟩) k k]) (by simp [results, Try.results67, go_sem]) rfl ⟨ga, gb, rfl, hK.out⟩
set_option maxHeartbeats 4000000 in
theorem seamBack_calls (s : Int) (vl vf : Value) (l f : List Int) (w : World) (hz : szF s = 0) (hl : Sl .i64 w vl l) (hf : Sl .i64 w vf f) (nl : l.length = hN s) (nf : f.length = hN s) (ll : lim 137438953472 l) (lf : lim 137438953472 f) :
    Calls Try.prog 67 #[.int .i64 s, vl, vf, .bool true] w fun e w' => ∃ ga gb, e = .returned (.tuple #[.slice (some ⟨ga, 0, none⟩) (hN s : Nat) (hN s : Nat), .slice (some ⟨gb, 0, none⟩) (hN s : Nat) (hN s : Nat)]) ∧ HK w (hN s) ga (hN s) gb (hN s) (smA (bkF s.toNat) (hN s) l f) (smB (bkF s.toNat) (hN s) l f) w' := by
  obtain ⟨_, e1, e2, e3, e4, e5⟩ := sz_nat hz
  have hm0 : s.tdiv 2 = (hN s : Int) := by rw [Int.tdiv_eq_ediv_of_nonneg (by omega)]; exact e5
  have hbd : 4 ≤ s ∧ s ≤ 16 := by omega
  have hm8 : hN s ≤ 8 ∧ 2 ≤ hN s := by omega
  have HZ := hid (fun W => zeros_calls (hN s) W (by omega))
  have HT := hid (fun k (hk : k < hN s) => turn_at hz hk)
  rw [e1] at HT
  have hnl : l ≠ [] := by intro e; rw [e] at nl; simp at nl; omega
  have hnf : f ≠ [] := by intro e; rw [e] at nf; simp at nf; omega
  obtain ⟨a1, cap1, rfl, hc1⟩ := hl
  obtain ⟨b1, off1, rfl, hb1, hcell1⟩ := hc1 hnl
  obtain ⟨a2, cap2, rfl, hc2⟩ := hf
  obtain ⟨b2, off2, rfl, hb2, hcell2⟩ := hc2 hnf
  rw [nl] at hcell1 ⊢
  rw [nf] at hcell2 ⊢
  have HC1 := hid hcell1
  have HC2 := hid hcell2
  have HL1 := hid ll
  have HL2 := hid lf
  have HA : Hid (∀ k, k < hN s → (fun j => (bkF s.toNat (hN s - 1 - j) (l.getD j 0) (f.getD (hN s - 1 - j) 0)).1) (hN s - 1 - k) = bkA (pV s (k : Int)) (uV s (k : Int)) (l.getD (hN s - 1 - k) 0) (f.getD k 0)) := by
    intro k hk
    show (bkF s.toNat (hN s - 1 - (hN s - 1 - k)) (l.getD (hN s - 1 - k) 0) (f.getD (hN s - 1 - (hN s - 1 - k)) 0)).1 = _
    rw [show hN s - 1 - (hN s - 1 - k) = k by omega]
    show bkA (pV (s.toNat : Int) (k : Int)) (uV (s.toNat : Int) (k : Int)) _ _ = _
    rw [e1]
  have HB : Hid (∀ k, k < hN s → (fun i => (bkF s.toNat i (l.getD (hN s - 1 - i) 0) (f.getD i 0)).2) k = bkB (pV s (k : Int)) (uV s (k : Int)) (l.getD (hN s - 1 - k) 0) (f.getD k 0)) := by
    intro k hk
    show bkB (pV (s.toNat : Int) (k : Int)) (uV (s.toNat : Int) (k : Int)) _ _ = _
    rw [e1]
  have HEA : Hid (mkL (hN s) (fun j => (bkF s.toNat (hN s - 1 - j) (l.getD j 0) (f.getD (hN s - 1 - j) 0)).1) = smA (bkF s.toNat) (hN s) l f) := rfl
  have HEB : Hid (mkL (hN s) (fun i => (bkF s.toNat i (l.getD (hN s - 1 - i) 0) (f.getD i 0)).2) = smB (bkF s.toNat) (hN s) l f) := rfl
  generalize smA (bkF s.toNat) (hN s) l f = RA at *
  generalize smB (bkF s.toNat) (hN s) l f = RB at *
  generalize (fun j => (bkF s.toNat (hN s - 1 - j) (l.getD j 0) (f.getD (hN s - 1 - j) 0)).1) = fa at *
  generalize (fun i => (bkF s.toNat i (l.getD (hN s - 1 - i) 0) (f.getD i 0)).2) = fb at *
  clear e1 e2 e5 hz nl nf hc1 hc2 hcell1 hcell2 hnl hnf ll lf
  generalize hN s = m at *
  go_enter Try.func67, Try.ntmps67
  go_wp2_with fail
  refine (HZ.out _).mono ?_
  rintro e w1 ⟨rfl, ho1, hbw1⟩
  have HO1 := hid ho1
  have HB1 := hid hbw1
  have hg1 := (ho1.block w.heap.size rfl).2
  clear ho1 hbw1
  go_wp2_with fail
  refine (HZ.out _).mono ?_
  rintro e w2 ⟨rfl, ho2, hbw2⟩
  have HK0 : Hid (HK w m w.heap.size m w1.heap.size m (saS m 0 fa) (sbS m 0 fb) w2) := by
    rw [saS_zero, sbS_zero]
    exact ⟨by omega, HO1.out.later hbw2, ho2.mono HB1.out.size, bthen HB1.out hbw2⟩
  clear ho2 hbw2 HO1 HB1 HZ hg1
  generalize w.heap.size = ga at HK0 ⊢
  generalize w1.heap.size = gb at HK0 ⊢
  go_wp2_with fail
  go_loopw [13] (fun i wr => ∃ k : Nat, i = .int .i64 (k : Int) ∧ k ≤ m ∧ Hid (HK w m ga m gb m (saS m k fa) (sbS m k fb) wr)) (fun i _ => m - (intOf i).toNat)
  case atStart => exact ⟨0, rfl, Nat.zero_le _, HK0.out⟩
  case round =>
    obtain ⟨k, rfl, hk, hK⟩ := hrel
    clear HK0
    by_cases hlt : k < m
    · obtain ⟨q, hq⟩ : ∃ q : Nat, m - 1 - k = q := ⟨_, rfl⟩
      have hqI : (m : Int) - 1 - (k : Int) = (q : Int) := by omega
      have hqm : q < m := by omega
      have c1 := (hK.out.b.cell (p := ⟨b1, off1 + q, none⟩) hb1).trans (HC1.out q hqm)
      have c2 := (hK.out.b.cell (p := ⟨b2, off2 + k, none⟩) hb2).trans (HC2.out k hlt)
      have hx := HL1.out q
      have hy := HL2.out k
      have v1 := HA.out k hlt
      have v2 := HB.out k hlt
      rw [hq] at v1 v2
      have HTj := hid (fun W => l5Back_calls s (k : Int) (l.getD q 0) (f.getD k 0) W (HT.out k hlt) (by omega) (by omega))
      rw [← v1, ← v2] at HTj
      have hsa := saS_set hlt fa
      rw [hq] at hsa
      have HSA := hid hsa
      have HSB := hid (sbS_set m k fb)
      have Hlen : Hid (m = (saS m k fa).length ∧ m = (sbS m k fb).length) := ⟨(saS_len _ _ _).symm, (sbS_len _ _ _).symm⟩
      have e1 : IntKind.i64.wrap ((m : Int) - 1) = (m : Int) - 1 := wrapk_of (by omega) (by omega)
      have e2 : IntKind.i64.wrap (q : Int) = (q : Int) := wrapk_of (by omega) (by omega)
      have hkI : (k : Int) < (m : Int) := by omega
      have hqI2 : (q : Int) < (m : Int) := by omega
      have hmI : (m : Int) ≤ 8 := by omega
      have hL0 : Below wr.heap.size wr wr.drew := (Below.refl _ wr).drew
      have hs1 : b1 < wr.heap.size := Nat.lt_of_lt_of_le hb1 hK.out.b.size
      have hs2 : b2 < wr.heap.size := Nat.lt_of_lt_of_le hb2 hK.out.b.size
      have HKd := hid hK.out.drew
      clear v1 v2 hsa hx hy hq hK HC1 HC2 HL1 HL2 HA HB HT HEA HEB
      generalize l.getD q 0 = x at *
      generalize f.getD k 0 = y at *
      go_wp2_with fail
      refine wp_region_noPanic ?_
      refine wp_region_held_drew (S := fun W => Below wr.heap.size wr W) (by kernel_rfl) ?_ (fun hHeld => ?_)
      · assumption
      (refine wpAnyH_take (i := 0) (v := ?_) rfl (by kernel_rfl) (by kernel_rfl) (by kernel_rfl) (fun _ _ _ h => h) (Or.inl ⟨by rfl, ?_⟩) hHeld ?_; rotate_left; (intro w hSw; (have s1 := (hSw.cell (p := ⟨b1, off1 + q, none⟩) hs1).trans c1; have s2 := (hSw.cell (p := ⟨b2, off2 + k, none⟩) hs2).trans c2; clear hSw); (go_simp <;> with_reducible rfl)); simp only [List.getElem_toArray, List.getElem_cons_zero, Act.put, List.setIfInBounds_toArray, List.set_cons_zero, List.set_cons_succ])
      (refine wpAnyH_take (i := 1) (v := ?_) rfl (by kernel_rfl) (by kernel_rfl) (by kernel_rfl) (fun _ _ _ h => h) (Or.inl ⟨by rfl, ?_⟩) hHeld ?_; rotate_left; (intro w hSw; (have s1 := (hSw.cell (p := ⟨b1, off1 + q, none⟩) hs1).trans c1; have s2 := (hSw.cell (p := ⟨b2, off2 + k, none⟩) hs2).trans c2; clear hSw); (go_simp <;> with_reducible rfl)); simp only [List.getElem_toArray, List.getElem_cons_zero, List.getElem_cons_succ, Act.put, List.setIfInBounds_toArray, List.set_cons_zero, List.set_cons_succ])
      (refine wpAnyH_take (i := 2) (v := ?_) rfl (by kernel_rfl) (by kernel_rfl) (by kernel_rfl) (fun _ _ _ h => h) (Or.inl ⟨by rfl, ?_⟩) hHeld ?_; rotate_left; (intro w hSw; (have s1 := (hSw.cell (p := ⟨b1, off1 + q, none⟩) hs1).trans c1; have s2 := (hSw.cell (p := ⟨b2, off2 + k, none⟩) hs2).trans c2; clear hSw); (go_simp <;> with_reducible rfl)); simp only [List.getElem_toArray, List.getElem_cons_zero, List.getElem_cons_succ, Act.put, List.setIfInBounds_toArray, List.set_cons_zero, List.set_cons_succ])
      (refine wpAnyH_take (i := 3) (v := ?_) rfl (by kernel_rfl) (by kernel_rfl) (by kernel_rfl) (fun _ _ _ h => h) (Or.inl ⟨by rfl, ?_⟩) hHeld ?_; rotate_left; (intro w hSw; (have s1 := (hSw.cell (p := ⟨b1, off1 + q, none⟩) hs1).trans c1; have s2 := (hSw.cell (p := ⟨b2, off2 + k, none⟩) hs2).trans c2; clear hSw); (go_simp <;> with_reducible rfl)); simp only [List.getElem_toArray, List.getElem_cons_zero, List.getElem_cons_succ, Act.put, List.setIfInBounds_toArray, List.set_cons_zero, List.set_cons_succ])
      (refine wpAnyH_take (i := 4) (v := ?_) rfl (by kernel_rfl) (by kernel_rfl) (by kernel_rfl) (fun _ _ _ h => h) (Or.inl ⟨by rfl, ?_⟩) hHeld ?_; rotate_left; (intro w hSw; (have s1 := (hSw.cell (p := ⟨b1, off1 + q, none⟩) hs1).trans c1; have s2 := (hSw.cell (p := ⟨b2, off2 + k, none⟩) hs2).trans c2; clear hSw); (go_simp <;> with_reducible rfl)); simp only [List.getElem_toArray, List.getElem_cons_zero, List.getElem_cons_succ, Act.put, List.setIfInBounds_toArray, List.set_cons_zero, List.set_cons_succ])
      (refine wpAnyH_take (i := 5) (v := ?_) rfl (by kernel_rfl) (by kernel_rfl) (by kernel_rfl) (fun _ _ _ h => h) (Or.inl ⟨by rfl, ?_⟩) hHeld ?_; rotate_left; (intro w hSw; (have s1 := (hSw.cell (p := ⟨b1, off1 + q, none⟩) hs1).trans c1; have s2 := (hSw.cell (p := ⟨b2, off2 + k, none⟩) hs2).trans c2; clear hSw); (go_simp <;> with_reducible rfl)); simp only [List.getElem_toArray, List.getElem_cons_zero, List.getElem_cons_succ, Act.put, List.setIfInBounds_toArray, List.set_cons_zero, List.set_cons_succ])
      (refine wpAnyH_take (i := 6) (v := ?_) rfl (by kernel_rfl) (by kernel_rfl) (by kernel_rfl) (fun _ _ _ h => h) (Or.inl ⟨by rfl, ?_⟩) hHeld ?_; rotate_left; (intro w hSw; (have s1 := (hSw.cell (p := ⟨b1, off1 + q, none⟩) hs1).trans c1; have s2 := (hSw.cell (p := ⟨b2, off2 + k, none⟩) hs2).trans c2; clear hSw); (go_simp <;> with_reducible rfl)); simp only [List.getElem_toArray, List.getElem_cons_zero, List.getElem_cons_succ, Act.put, List.setIfInBounds_toArray, List.set_cons_zero, List.set_cons_succ])
      (refine wpAnyH_take (i := 7) (v := ?_) rfl (by kernel_rfl) (by kernel_rfl) (by kernel_rfl) (fun _ _ _ h => h) (Or.inl ⟨by rfl, ?_⟩) hHeld ?_; rotate_left; (intro w hSw; (have s1 := (hSw.cell (p := ⟨b1, off1 + q, none⟩) hs1).trans c1; have s2 := (hSw.cell (p := ⟨b2, off2 + k, none⟩) hs2).trans c2; clear hSw); (go_simp <;> with_reducible rfl)); simp only [List.getElem_toArray, List.getElem_cons_zero, List.getElem_cons_succ, Act.put, List.setIfInBounds_toArray, List.set_cons_zero, List.set_cons_succ])
      (refine wpAnyH_take (i := 8) (v := ?_) rfl (by kernel_rfl) (by kernel_rfl) (by kernel_rfl) (fun _ _ _ h => h) (Or.inl ⟨by rfl, ?_⟩) hHeld ?_; rotate_left; (intro w hSw; (have s1 := (hSw.cell (p := ⟨b1, off1 + q, none⟩) hs1).trans c1; have s2 := (hSw.cell (p := ⟨b2, off2 + k, none⟩) hs2).trans c2; clear hSw); (go_simp <;> with_reducible rfl)); simp only [List.getElem_toArray, List.getElem_cons_zero, List.getElem_cons_succ, Act.put, List.setIfInBounds_toArray, List.set_cons_zero, List.set_cons_succ])
      (refine wpAnyH_take (i := 9) (v := ?_) rfl (by kernel_rfl) (by kernel_rfl) (by kernel_rfl) (fun _ _ _ h => h) (Or.inl ⟨by rfl, ?_⟩) hHeld ?_; rotate_left; (intro w hSw; (have s1 := (hSw.cell (p := ⟨b1, off1 + q, none⟩) hs1).trans c1; have s2 := (hSw.cell (p := ⟨b2, off2 + k, none⟩) hs2).trans c2; clear hSw); (go_simp <;> with_reducible rfl)); simp only [List.getElem_toArray, List.getElem_cons_zero, List.getElem_cons_succ, Act.put, List.setIfInBounds_toArray, List.set_cons_zero, List.set_cons_succ])
      (refine wpAnyH_take (i := 10) (v := ?_) rfl (by kernel_rfl) (by kernel_rfl) (by kernel_rfl) (fun _ _ _ h => h) (Or.inl ⟨by rfl, ?_⟩) hHeld ?_; rotate_left; (intro w hSw; (have s1 := (hSw.cell (p := ⟨b1, off1 + q, none⟩) hs1).trans c1; have s2 := (hSw.cell (p := ⟨b2, off2 + k, none⟩) hs2).trans c2; clear hSw); (go_simp <;> with_reducible rfl)); simp only [List.getElem_toArray, List.getElem_cons_zero, List.getElem_cons_succ, Act.put, List.setIfInBounds_toArray, List.set_cons_zero, List.set_cons_succ])
      (refine wpAnyH_take (i := 11) (v := ?_) rfl (by kernel_rfl) (by kernel_rfl) (by kernel_rfl) (fun _ _ _ h => h) (Or.inl ⟨by rfl, ?_⟩) hHeld ?_; rotate_left; (intro w hSw; (have s1 := (hSw.cell (p := ⟨b1, off1 + q, none⟩) hs1).trans c1; have s2 := (hSw.cell (p := ⟨b2, off2 + k, none⟩) hs2).trans c2; clear hSw); (go_simp <;> with_reducible rfl)); simp only [List.getElem_toArray, List.getElem_cons_zero, List.getElem_cons_succ, Act.put, List.setIfInBounds_toArray, List.set_cons_zero, List.set_cons_succ])
      (refine wpAnyH_take (i := 12) (v := ?_) rfl (by kernel_rfl) (by kernel_rfl) (by kernel_rfl) (fun _ _ _ h => h) (Or.inl ⟨by rfl, ?_⟩) hHeld ?_; rotate_left; (intro w hSw; (have s1 := (hSw.cell (p := ⟨b1, off1 + q, none⟩) hs1).trans c1; have s2 := (hSw.cell (p := ⟨b2, off2 + k, none⟩) hs2).trans c2; clear hSw); (go_simp <;> with_reducible rfl)); simp only [List.getElem_toArray, List.getElem_cons_zero, List.getElem_cons_succ, Act.put, List.setIfInBounds_toArray, List.set_cons_zero, List.set_cons_succ])
      (refine wpAnyH_ready (rs := [13]) (by kernel_rfl) (by simp) ?_; refine AllReadyH.cons rfl (fun K hK => ?_) AllReadyH.nil; go_simp; (refine (HTj.out _).mono ?_; rintro e w9 ⟨rfl, rfl⟩); refine hK.out _ _ ?_ (fun hHeld => ?_); (assumption); clear hK K; try dsimp only)
      (refine wpAnyH_take (i := 14) (v := ?_) rfl (by kernel_rfl) (by kernel_rfl) (by kernel_rfl) (fun _ _ _ h => h) (Or.inl ⟨by rfl, ?_⟩) hHeld ?_; rotate_left; (intro w hSw; (have s1 := (hSw.cell (p := ⟨b1, off1 + q, none⟩) hs1).trans c1; have s2 := (hSw.cell (p := ⟨b2, off2 + k, none⟩) hs2).trans c2; clear hSw); (go_simp <;> with_reducible rfl)); simp only [List.getElem_toArray, List.getElem_cons_zero, List.getElem_cons_succ, Act.put, List.setIfInBounds_toArray, List.set_cons_zero, List.set_cons_succ])
      (refine wpAnyH_take (i := 15) (v := ?_) rfl (by kernel_rfl) (by kernel_rfl) (by kernel_rfl) (fun _ _ _ h => h) (Or.inl ⟨by rfl, ?_⟩) hHeld ?_; rotate_left; (intro w hSw; (have s1 := (hSw.cell (p := ⟨b1, off1 + q, none⟩) hs1).trans c1; have s2 := (hSw.cell (p := ⟨b2, off2 + k, none⟩) hs2).trans c2; clear hSw); (go_simp <;> with_reducible rfl)); simp only [List.getElem_toArray, List.getElem_cons_zero, List.getElem_cons_succ, Act.put, List.setIfInBounds_toArray, List.set_cons_zero, List.set_cons_succ])
      (refine wpAnyH_take (i := 16) (v := ?_) rfl (by kernel_rfl) (by kernel_rfl) (by kernel_rfl) (fun _ _ _ h => h) (Or.inl ⟨by rfl, ?_⟩) hHeld ?_; rotate_left; (intro w hSw; (have s1 := (hSw.cell (p := ⟨b1, off1 + q, none⟩) hs1).trans c1; have s2 := (hSw.cell (p := ⟨b2, off2 + k, none⟩) hs2).trans c2; clear hSw); (go_simp <;> with_reducible rfl)); simp only [List.getElem_toArray, List.getElem_cons_zero, List.getElem_cons_succ, Act.put, List.setIfInBounds_toArray, List.set_cons_zero, List.set_cons_succ])
      (refine wpAnyH_take (i := 17) (v := ?_) rfl (by kernel_rfl) (by kernel_rfl) (by kernel_rfl) (fun _ _ _ h => h) (Or.inl ⟨by rfl, ?_⟩) hHeld ?_; rotate_left; (intro w hSw; (have s1 := (hSw.cell (p := ⟨b1, off1 + q, none⟩) hs1).trans c1; have s2 := (hSw.cell (p := ⟨b2, off2 + k, none⟩) hs2).trans c2; clear hSw); (go_simp <;> with_reducible rfl)); simp only [List.getElem_toArray, List.getElem_cons_zero, List.getElem_cons_succ, Act.put, List.setIfInBounds_toArray, List.set_cons_zero, List.set_cons_succ])
      (refine wpAnyH_take (i := 18) (v := ?_) rfl (by kernel_rfl) (by kernel_rfl) (by kernel_rfl) (fun _ _ _ h => h) (Or.inl ⟨by rfl, ?_⟩) hHeld ?_; rotate_left; (intro w hSw; (have s1 := (hSw.cell (p := ⟨b1, off1 + q, none⟩) hs1).trans c1; have s2 := (hSw.cell (p := ⟨b2, off2 + k, none⟩) hs2).trans c2; clear hSw); (go_simp <;> with_reducible rfl)); simp only [List.getElem_toArray, List.getElem_cons_zero, List.getElem_cons_succ, Act.put, List.setIfInBounds_toArray, List.set_cons_zero, List.set_cons_succ])
      refine wpAnyH_done (by kernel_rfl) ?_ _
      refine NoPanic.normal ?_
      clear hHeld hL0 c1 c2 HTj
      generalize wr.drew = W1 at *
      obtain ⟨c1, f1⟩ := HKd.out.s.cellAt Hlen.out.1 q (by rw [← Hlen.out.1]; exact hqm)
      obtain ⟨c2, f2⟩ := HKd.out.d.cellAt Hlen.out.2 k (by rw [← Hlen.out.2]; exact hlt)
      have hne := HKd.out.ne
      have HK2 : Hid (HK w m ga m gb m (saS m (k + 1) fa) (sbS m (k + 1) fb) ((W1.setCell ⟨ga, q, none⟩ (.int .i64 (fa q))).setCell ⟨gb, k, none⟩ (.int .i64 (fb k)))) := by
        have hst1 := Ow.set HKd.out.s Hlen.out.1 q (fa q)
        have hd1 := Ow.keptNe HKd.out.d hst1.2 (fun i e => by simp [Value.ownBlock] at e ⊢; omega)
        have hst2 := Ow.set hd1 Hlen.out.2 k (fb k)
        have hs2 := Ow.keptNe hst1.1 hst2.2 (fun i e => by simp [Value.ownBlock] at e ⊢; omega)
        rw [HSA.out] at hs2
        have hd2 := hst2.1
        rw [HSB.out] at hd2
        exact ⟨hne, hs2, hd2, (HKd.out.b.setCell (p := ⟨ga, q, none⟩) (blk_of HKd.out.s).1 _).setCell (p := ⟨gb, k, none⟩) (blk_of HKd.out.d).1 _⟩
      clear HKd HSA HSB Hlen
      generalize (saS m k fa).getD q 0 = z1 at *
      generalize (sbS m k fb).getD k 0 = z2 at *
      generalize fa q = x' at *
      generalize fb k = y' at *
      go_wp2
      go_roundw
      case rel => exact ⟨k + 1, by go_num, by omega, HK2.out⟩
      case measure => simp [intOf]; omega
    · obtain rfl : k = m := by omega
      rw [saS_end, sbS_end, HEA.out, HEB.out] at hK
      go_wp2
      exact bodyPost_ret (v := .tuple #[.slice (some ⟨ga, 0, none⟩) k k, .slice (some ⟨gb, 0, none⟩) k k]) (by simp [results, Try.results67, go_sem]) rfl ⟨ga, gb, rfl, hK.out⟩
end Go.Proofs.Ytodfkicmmcfkaaa.LapT
