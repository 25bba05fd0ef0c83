/- The program turns, in a part of a block, the numbers that are as far from its two ends as each other, back by a way that is handed in. Condition: the table of turns, and numbers within MaxWide (bounds: not below 0). -/
import Derived.Test.YtbakmphopgkpmaaDoorTeA
import Derived.Test.YtbakmphopgkpmaaDoorWayJ
namespace Go.Proofs.YtbakmphopgkpmaaDoor.TeB
open Go.ChangeShapes Go.WideShapes Go.ChangeAt Go.RowKit Go.Proofs.YtbakmphopgkpmaaDoor.Num Go.Proofs.YtbakmphopgkpmaaDoor.Sli Go.Proofs.YtbakmphopgkpmaaDoor.App Go.Proofs.YtbakmphopgkpmaaDoor.Samp Go.Proofs.YtbakmphopgkpmaaDoor.Blk Go.Proofs.YtbakmphopgkpmaaDoor.TurM Go.Proofs.YtbakmphopgkpmaaDoor.HalM Go.Proofs.YtbakmphopgkpmaaDoor.TurI Go.Proofs.YtbakmphopgkpmaaDoor.WayM Go.Proofs.YtbakmphopgkpmaaDoor.WayJ Go.Proofs.YtbakmphopgkpmaaDoor.Par Go.Proofs.YtbakmphopgkpmaaDoor.BkI Go.Proofs.YtbakmphopgkpmaaDoor.TeA

set_option maxHeartbeats 4000000 in
theorem endsBack_calls (kd : Bool) (hkd : has kd) (wv : Value) (g c off m : Nat) (A D : List Int) (w : World) (h : Bi w g (A ++ D)) (ho : A.length = off) (hm : D.length = m) (hn : sz4 (2 * m)) (hl : wlim kd 137438953472 D) (hg0 : g ≠ 0) (hT : Tab w) (hwv : ∀ W, w.grownBy W (some g) → WayV kd W wv) :
    Calls Tryd.prog 121 #[.slice (some ⟨g, off, none⟩) m c, .func (.func 50) #[wv] #[]] w fun e w' => e = .returned (.tuple #[]) ∧ Bi w' g (A ++ prL (wF kd (2 * m)) (2 * m) D) ∧ w.grownBy w' (some g) := by
  have H0 : Hid (TE w g (A ++ pS m 0 (prE (wF kd (2 * m)) (2 * m) D) (fun i => D.getD i 0)) w) := by
    refine ⟨?_, hT, grown_refl _ _⟩
    rw [pS_zero, ← hm, mkL_self]; exact h
  have HEnd := hid (te_end (F := wF kd (2 * m)) hn hm)
  have HV := hid (fun j hj => te_step (F := wF kd (2 * m)) (m := m) (j := j) hn hj D)
  have HRow := hid (fun j (hj : j < m / 2) => row_small (n := 2 * m) (i := j) hn (by omega) (by omega))
  have hm8 : 1 ≤ m ∧ m ≤ 8 := by unfold sz4 at hn; omega
  have hr0 : ((m : Int)).tdiv 2 = ((m / 2 : Nat) : Int) := by rw [Int.tdiv_eq_ediv_of_nonneg (by omega)]; omega
  have hr1 : 2 * (m / 2) ≤ m := by omega
  have Ho := hid ho
  have HL := hid hl
  have HWY := hid hwv
  have HP := hid pairOf_calls
  clear h ho hm hl hT hn hwv
  generalize hvv : prE (wF kd (2 * m)) (2 * m) D = vv at *
  generalize hoo : (fun i => D.getD i 0) = oo at *
  have HO : Hid (∀ i, oo i = D.getD i 0) := fun i => by rw [← hoo]
  clear hoo hvv
  generalize m / 2 = r at *
  go_enter Tryd.func121, Tryd.ntmps121
  go_wp2
  go_loopw [13] (fun i wr => ∃ k : Nat, i = .int .i64 (k : Int) ∧ k ≤ r ∧ Hid (TE w g (A ++ pS m k vv oo) wr)) (fun i _ => r - (intOf i).toNat)
  case atStart => exact ⟨0, rfl, Nat.zero_le _, H0⟩
  case round =>
    obtain ⟨k, rfl, hk, HK⟩ := hrel
    clear H0
    by_cases hlt : k < r
    · obtain ⟨q, hq⟩ : ∃ q : Nat, m - 1 - k = q := ⟨_, rfl⟩
      have hqI : (m : Int) - 1 - (k : Int) = (q : Int) := by omega
      have hqm : q < m := by omega
      have hkm : k < m := by omega
      have hne : k ≠ q := by omega
      have h2k : 2 * k < m := by omega
      obtain ⟨v1, v2⟩ := HV.out k hlt
      rw [hq] at v1 v2
      obtain ⟨hok, hpu⟩ := HRow.out k hlt
      have hx := HL.out k
      have hy := HL.out q
      have hcast : (((2 * m : Nat) : Int)) = 2 * (m : Int) := by omega
      obtain ⟨ec, ea, eb⟩ := t_yes hok
      have HTf := hid (fun W (hW : Tab W) => turnOf_calls ((2 * m : Nat) : Int) (k : Int) W hW)
      rw [ec, ea, eb, hcast] at HTf
      have HBk := hid (fun W (hv : WayV kd W wv) => turned_calls kd hkd wv (pV ((2 * m : Nat) : Int) (k : Int)) (uV ((2 * m : Nat) : Int) (k : Int)) (D.getD k 0) (D.getD q 0) W hv (by omega) hx hy)
      have e1' : (wF kd (2 * m) k (D.getD k 0) (D.getD q 0)).1 = wA kd (pV ((2 * m : Nat) : Int) (k : Int)) (uV ((2 * m : Nat) : Int) (k : Int)) (D.getD k 0) (D.getD q 0) := rfl
      have e2' : (wF kd (2 * m) k (D.getD k 0) (D.getD q 0)).2 = wB kd (pV ((2 * m : Nat) : Int) (k : Int)) (uV ((2 * m : Nat) : Int) (k : Int)) (D.getD k 0) (D.getD q 0) := rfl
      rw [e1'] at v1
      rw [e2'] at v2
      rw [← v1, ← v2, hcast] at HBk
      have hstep := pS_step (m := m) (k := k) vv oo
      rw [hq] at hstep
      have HStep := hid hstep
      have HC : Hid (∀ W, TE w g (A ++ pS m k vv oo) W → (W.cell? ⟨g, off + k, none⟩ = some (.int .i64 (D.getD k 0)) ∧ W.frozen? ⟨g, off + k, none⟩ = false) ∧ (W.cell? ⟨g, off + q, none⟩ = some (.int .i64 (D.getD q 0)) ∧ W.frozen? ⟨g, off + q, none⟩ = false)) := by
        intro W hW
        have c1 := hW.b.cell (off + k) (by rw [List.length_append, pS_len, Ho.out]; omega)
        have c2 := hW.b.cell (off + q) (by rw [List.length_append, pS_len, Ho.out]; omega)
        rw [← Ho.out, sec_get, pS_lo vv oo h2k, HO.out k, Ho.out] at c1
        rw [← Ho.out, sec_get, ← hq, pS_hi vv oo h2k, hq, HO.out q, Ho.out] at c2
        exact ⟨c1, c2⟩
      have HN : Hid (∀ W, TE w g (A ++ pS m k vv oo) W → TE w g (A ++ pS m (k + 1) vv oo) ((W.setCell ⟨g, off + k, none⟩ (.int .i64 (vv k))).setCell ⟨g, off + q, none⟩ (.int .i64 (vv q))).drew) := by
        intro W hW
        have h1 := (hW.b.set (off + k) (vv k)).set (off + q) (vv q)
        rw [← Ho.out, sec_set, sec_set, HStep.out, Ho.out] at h1
        exact ⟨h1, tab_set (tab_set hW.t hg0 _ _) hg0 _ _, grown_drew (grown_same hW.k (grown_same (grown_set W g (off + k) (.int .i64 (vv k))) (grown_set _ g (off + q) (.int .i64 (vv q)))))⟩
      have hkI : (k : Int) < (r : Int) := by omega
      have hkI2 : (k : Int) < (m : Int) := by omega
      have hqI2 : (q : Int) < (m : Int) := by omega
      have hmI : (m : Int) ≤ 8 := by omega
      clear v1 v2 e1' e2' hstep HStep ec ea eb hok hpu hcast HV HRow HEnd h2k hq hr1 HL hx hy
      generalize pV (2 * (m : Int)) (k : Int) = p at *
      generalize uV (2 * (m : Int)) (k : Int) = u at *
      generalize D.getD k 0 = x at *
      generalize D.getD q 0 = y at *
      generalize vv k = xa at *
      generalize vv q = xb at *
      go_wp2_with fail
      refine (HTf.out _ HK.out.t).mono ?_
      rintro e w1 ⟨rfl, hb1⟩
      have HK2 := hid (HK.out.later (bmore hb1 (.cells #[.int .i64 p, .int .i64 u] 85)))
      have HP2 := hid (Blk.new w1 #[.int .i64 p, .int .i64 u] 85)
      clear HK hb1 HTf
      go_upto_region 5 with fail
      have hP0 := HP2.out.lt
      generalize w1.heap.size = P at *
      generalize w1.alloc (.cells #[.int .i64 p, .int .i64 u] 85) = w2 at *
      have hWY : WayV kd w2 wv := HWY.out _ HK2.out.k
      go_cut [8] from 23 to 37 (fun z wc => ∃ E : Nat, z = .pointer (some ⟨E, 0, none⟩) ∧ w2.heap.size ≤ E ∧ Hid (Blk wc E #[.int .i64 xa, .int .i64 xb] 69) ∧ Hid (Below w2.heap.size w2 wc))
      case first =>
        have hL0 : Below w2.heap.size w2 w2.drew := (Below.refl _ w2).drew
        have hA1 : Below w2.heap.size w2 (w2.alloc (.cells #[.int .i64 0, .int .i64 0] 69)).drew := (bmore (Below.refl _ w2) _).drew
        have hE1 : Blk (w2.alloc (.cells #[.int .i64 0, .int .i64 0] 69)).drew w2.heap.size #[.int .i64 0, .int .i64 0] 69 := Blk.new w2 _ _
        obtain ⟨p0, p1, _, _⟩ := HP2.out.two
        obtain ⟨⟨c1, _⟩, ⟨c2, _⟩⟩ := HC.out _ HK2.out
        have hgl := HK2.out.b.lt
        have e1 : IntKind.i64.wrap ((m : Int) - 1) = (m : Int) - 1 := wrapk_of (by omega) (by omega)
        have e2 : IntKind.i64.wrap (q : Int) = (q : Int) := wrapk_of (by omega) (by omega)
        refine wp_region_noPanic ?_
        refine wp_region_held_drew (S := fun W => Below w2.heap.size w2 W) (by kernel_rfl) (by first | exact hP9 | exact hL9 | exact hL8 | exact hP7 | exact hL7 | exact hA1 | exact hL0) (fun hHeld => ?_)
        (refine wpAnyH_take (i := 0) (v := ?_) rfl (by kernel_rfl) (by kernel_rfl) (by kernel_rfl) (fun _ _ _ h => h) (Or.inl ⟨by rfl, ?_⟩) hHeld ?_; rotate_left; (intro w hSw; (have s1 := (hSw.cell (p := ⟨g, off + k, none⟩) hgl).trans c1; have s2 := (hSw.cell (p := ⟨g, off + q, none⟩) hgl).trans c2; have s3 := (hSw.cell (p := ⟨P, 0, none⟩) hP0).trans p0; have s4 := (hSw.cell (p := ⟨P, 1, none⟩) hP0).trans p1; clear hSw); (go_simp <;> with_reducible rfl)); simp only [List.getElem_toArray, List.getElem_cons_zero, Act.put, List.setIfInBounds_toArray, List.set_cons_zero, List.set_cons_succ])
        (refine wpAnyH_take (i := 1) (v := ?_) rfl (by kernel_rfl) (by kernel_rfl) (by kernel_rfl) (fun _ _ _ h => h) (Or.inl ⟨by rfl, ?_⟩) hHeld ?_; rotate_left; (intro w hSw; (have s1 := (hSw.cell (p := ⟨g, off + k, none⟩) hgl).trans c1; have s2 := (hSw.cell (p := ⟨g, off + q, none⟩) hgl).trans c2; have s3 := (hSw.cell (p := ⟨P, 0, none⟩) hP0).trans p0; have s4 := (hSw.cell (p := ⟨P, 1, none⟩) hP0).trans p1; clear hSw); (go_simp <;> with_reducible rfl)); simp only [List.getElem_toArray, List.getElem_cons_zero, List.getElem_cons_succ, Act.put, List.setIfInBounds_toArray, List.set_cons_zero, List.set_cons_succ])
        (refine wpAnyH_take (i := 2) (v := ?_) rfl (by kernel_rfl) (by kernel_rfl) (by kernel_rfl) (fun _ _ _ h => h) (Or.inl ⟨by rfl, ?_⟩) hHeld ?_; rotate_left; (intro w hSw; (have s1 := (hSw.cell (p := ⟨g, off + k, none⟩) hgl).trans c1; have s2 := (hSw.cell (p := ⟨g, off + q, none⟩) hgl).trans c2; have s3 := (hSw.cell (p := ⟨P, 0, none⟩) hP0).trans p0; have s4 := (hSw.cell (p := ⟨P, 1, none⟩) hP0).trans p1; clear hSw); (go_simp <;> with_reducible rfl)); simp only [List.getElem_toArray, List.getElem_cons_zero, List.getElem_cons_succ, Act.put, List.setIfInBounds_toArray, List.set_cons_zero, List.set_cons_succ])
        (refine wpAnyH_take (i := 3) (v := ?_) rfl (by kernel_rfl) (by kernel_rfl) (by kernel_rfl) (fun _ _ _ h => h) (Or.inl ⟨by rfl, ?_⟩) hHeld ?_; rotate_left; (intro w hSw; (have s1 := (hSw.cell (p := ⟨g, off + k, none⟩) hgl).trans c1; have s2 := (hSw.cell (p := ⟨g, off + q, none⟩) hgl).trans c2; have s3 := (hSw.cell (p := ⟨P, 0, none⟩) hP0).trans p0; have s4 := (hSw.cell (p := ⟨P, 1, none⟩) hP0).trans p1; clear hSw); (go_simp <;> with_reducible rfl)); simp only [List.getElem_toArray, List.getElem_cons_zero, List.getElem_cons_succ, Act.put, List.setIfInBounds_toArray, List.set_cons_zero, List.set_cons_succ])
        (refine wpAnyH_take (i := 4) (v := ?_) rfl (by kernel_rfl) (by kernel_rfl) (by kernel_rfl) (fun _ _ _ h => h) (Or.inl ⟨by rfl, ?_⟩) hHeld ?_; rotate_left; (intro w hSw; (have s1 := (hSw.cell (p := ⟨g, off + k, none⟩) hgl).trans c1; have s2 := (hSw.cell (p := ⟨g, off + q, none⟩) hgl).trans c2; have s3 := (hSw.cell (p := ⟨P, 0, none⟩) hP0).trans p0; have s4 := (hSw.cell (p := ⟨P, 1, none⟩) hP0).trans p1; clear hSw); (go_simp <;> with_reducible rfl)); simp only [List.getElem_toArray, List.getElem_cons_zero, List.getElem_cons_succ, Act.put, List.setIfInBounds_toArray, List.set_cons_zero, List.set_cons_succ])
        (refine wpAnyH_take (i := 5) (v := ?_) rfl (by kernel_rfl) (by kernel_rfl) (by kernel_rfl) (fun _ _ _ h => h) (Or.inl ⟨by rfl, ?_⟩) hHeld ?_; rotate_left; (intro w hSw; (have s1 := (hSw.cell (p := ⟨g, off + k, none⟩) hgl).trans c1; have s2 := (hSw.cell (p := ⟨g, off + q, none⟩) hgl).trans c2; have s3 := (hSw.cell (p := ⟨P, 0, none⟩) hP0).trans p0; have s4 := (hSw.cell (p := ⟨P, 1, none⟩) hP0).trans p1; clear hSw); (go_simp <;> with_reducible rfl)); simp only [List.getElem_toArray, List.getElem_cons_zero, List.getElem_cons_succ, Act.put, List.setIfInBounds_toArray, List.set_cons_zero, List.set_cons_succ])
        (refine wpAnyH_take (i := 6) (v := ?_) rfl (by kernel_rfl) (by kernel_rfl) (by kernel_rfl) (fun _ _ _ h => h) (Or.inl ⟨by rfl, ?_⟩) hHeld ?_; rotate_left; (intro w hSw; (have s1 := (hSw.cell (p := ⟨g, off + k, none⟩) hgl).trans c1; have s2 := (hSw.cell (p := ⟨g, off + q, none⟩) hgl).trans c2; have s3 := (hSw.cell (p := ⟨P, 0, none⟩) hP0).trans p0; have s4 := (hSw.cell (p := ⟨P, 1, none⟩) hP0).trans p1; clear hSw); (go_simp <;> with_reducible rfl)); simp only [List.getElem_toArray, List.getElem_cons_zero, List.getElem_cons_succ, Act.put, List.setIfInBounds_toArray, List.set_cons_zero, List.set_cons_succ])
        (refine wpAnyH_take (i := 7) (v := ?_) rfl (by kernel_rfl) (by kernel_rfl) (by kernel_rfl) (fun _ _ _ h => h) (Or.inl ⟨by rfl, ?_⟩) hHeld ?_; rotate_left; (intro w hSw; (have s1 := (hSw.cell (p := ⟨g, off + k, none⟩) hgl).trans c1; have s2 := (hSw.cell (p := ⟨g, off + q, none⟩) hgl).trans c2; have s3 := (hSw.cell (p := ⟨P, 0, none⟩) hP0).trans p0; have s4 := (hSw.cell (p := ⟨P, 1, none⟩) hP0).trans p1; clear hSw); (go_simp <;> with_reducible rfl)); simp only [List.getElem_toArray, List.getElem_cons_zero, List.getElem_cons_succ, Act.put, List.setIfInBounds_toArray, List.set_cons_zero, List.set_cons_succ])
        (refine wpAnyH_take (i := 8) (v := ?_) rfl (by kernel_rfl) (by kernel_rfl) (by kernel_rfl) (fun _ _ _ h => h) (Or.inl ⟨by rfl, ?_⟩) hHeld ?_; rotate_left; (intro w hSw; (have s1 := (hSw.cell (p := ⟨g, off + k, none⟩) hgl).trans c1; have s2 := (hSw.cell (p := ⟨g, off + q, none⟩) hgl).trans c2; have s3 := (hSw.cell (p := ⟨P, 0, none⟩) hP0).trans p0; have s4 := (hSw.cell (p := ⟨P, 1, none⟩) hP0).trans p1; clear hSw); (go_simp <;> with_reducible rfl)); simp only [List.getElem_toArray, List.getElem_cons_zero, List.getElem_cons_succ, Act.put, List.setIfInBounds_toArray, List.set_cons_zero, List.set_cons_succ])
        (refine wpAnyH_take (i := 9) (v := ?_) rfl (by kernel_rfl) (by kernel_rfl) (by kernel_rfl) (fun _ _ _ h => h) (Or.inl ⟨by rfl, ?_⟩) hHeld ?_; rotate_left; (intro w hSw; (have s1 := (hSw.cell (p := ⟨g, off + k, none⟩) hgl).trans c1; have s2 := (hSw.cell (p := ⟨g, off + q, none⟩) hgl).trans c2; have s3 := (hSw.cell (p := ⟨P, 0, none⟩) hP0).trans p0; have s4 := (hSw.cell (p := ⟨P, 1, none⟩) hP0).trans p1; clear hSw); (go_simp <;> with_reducible rfl)); simp only [List.getElem_toArray, List.getElem_cons_zero, List.getElem_cons_succ, Act.put, List.setIfInBounds_toArray, List.set_cons_zero, List.set_cons_succ])
        (refine wpAnyH_take (i := 10) (v := ?_) rfl (by kernel_rfl) (by kernel_rfl) (by kernel_rfl) (fun _ _ _ h => h) (Or.inl ⟨by rfl, ?_⟩) hHeld ?_; rotate_left; (intro w hSw; (have s1 := (hSw.cell (p := ⟨g, off + k, none⟩) hgl).trans c1; have s2 := (hSw.cell (p := ⟨g, off + q, none⟩) hgl).trans c2; have s3 := (hSw.cell (p := ⟨P, 0, none⟩) hP0).trans p0; have s4 := (hSw.cell (p := ⟨P, 1, none⟩) hP0).trans p1; clear hSw); (go_simp <;> with_reducible rfl)); simp only [List.getElem_toArray, List.getElem_cons_zero, List.getElem_cons_succ, Act.put, List.setIfInBounds_toArray, List.set_cons_zero, List.set_cons_succ])
        (refine wpAnyH_take (i := 11) (v := ?_) rfl (by kernel_rfl) (by kernel_rfl) (by kernel_rfl) (fun _ _ _ h => h) (Or.inl ⟨by rfl, ?_⟩) hHeld ?_; rotate_left; (intro w hSw; (have s1 := (hSw.cell (p := ⟨g, off + k, none⟩) hgl).trans c1; have s2 := (hSw.cell (p := ⟨g, off + q, none⟩) hgl).trans c2; have s3 := (hSw.cell (p := ⟨P, 0, none⟩) hP0).trans p0; have s4 := (hSw.cell (p := ⟨P, 1, none⟩) hP0).trans p1; clear hSw); (go_simp <;> with_reducible rfl)); simp only [List.getElem_toArray, List.getElem_cons_zero, List.getElem_cons_succ, Act.put, List.setIfInBounds_toArray, List.set_cons_zero, List.set_cons_succ])
        (refine wpAnyH_take (i := 12) (v := ?_) rfl (by kernel_rfl) (by kernel_rfl) (by kernel_rfl) (fun _ _ _ h => h) (Or.inl ⟨by rfl, ?_⟩) hHeld ?_; rotate_left; (intro w hSw; (have s1 := (hSw.cell (p := ⟨g, off + k, none⟩) hgl).trans c1; have s2 := (hSw.cell (p := ⟨g, off + q, none⟩) hgl).trans c2; have s3 := (hSw.cell (p := ⟨P, 0, none⟩) hP0).trans p0; have s4 := (hSw.cell (p := ⟨P, 1, none⟩) hP0).trans p1; clear hSw); (go_simp <;> with_reducible rfl)); simp only [List.getElem_toArray, List.getElem_cons_zero, List.getElem_cons_succ, Act.put, List.setIfInBounds_toArray, List.set_cons_zero, List.set_cons_succ])
        refine wpAnyH_ready (rs := [13, 15]) (by kernel_rfl) (by simp) ?_
        refine (AllReadyH.cons rfl (fun K hK => ?_) (AllReadyH.cons rfl (fun K hK => ?_) AllReadyH.nil))
        · go_simp
          (refine (HP.out _ _ _).mono ?_; rintro e w8 ⟨rfl, hb8⟩; have hL8 := bthen hHeld hb8; have hL7 := bmore hL8 (.cells #[.int .i64 0, .int .i64 0] 69); have hE8 := Blk.new w8 #[.int .i64 0, .int .i64 0] 69; have hle8 : w2.heap.size ≤ w8.heap.size := hL8.size)
          refine hK.out _ _ (by first | exact hP9 | exact hL9 | exact hL8 | exact hP7 | exact hL7 | exact hA1 | exact hL0) (fun hHeld => ?_)
          clear hK K
          try dsimp only
          refine wpAnyH_ready (rs := [14, 15]) (by kernel_rfl) (by simp) ?_
          refine (AllReadyH.cons rfl (fun K hK => ?_) (AllReadyH.cons rfl (fun K hK => ?_) AllReadyH.nil))
          · go_simp
            (refine (HBk.out _ (hWY.later hHeld)).mono ?_; rintro e w9 ⟨rfl, hb9⟩; have hL9 := bthen hHeld hb9; clear hE8; have hle8 : w2.heap.size ≤ w9.heap.size := hL9.size; have hL7 := bmore hL9 (.cells #[.int .i64 0, .int .i64 0] 69); have hP7 := bmore hL9 (.cells #[.int .i64 xa, .int .i64 xb] 69); have hQ9 := Blk.new w9 #[.int .i64 xa, .int .i64 xb] 69)
            refine hK.out _ _ (by first | exact hP9 | exact hL9 | exact hL8 | exact hP7 | exact hL7 | exact hA1 | exact hL0) (fun hHeld => ?_)
            clear hK K
            try dsimp only
            refine wpAnyH_ready (rs := [15]) (by kernel_rfl) (by simp) ?_
            refine (AllReadyH.cons rfl (fun K hK => ?_) AllReadyH.nil)
            go_simp
            skip
            refine hK.out _ _ (by first | exact hP9 | exact hL9 | exact hL8 | exact hP7 | exact hL7 | exact hA1 | exact hL0) (fun hHeld => ?_)
            clear hK K
            try simp only [List.getElem_toArray, List.getElem_cons_zero, List.getElem_cons_succ, Act.put, List.setIfInBounds_toArray, List.set_cons_zero, List.set_cons_succ]
            refine wpAnyH_ready (rs := [16]) (by kernel_rfl) (by simp) ?_
            refine (AllReadyH.cons rfl (fun K hK => ?_) AllReadyH.nil)
            go_simp
            skip
            refine hK.out _ _ (by first | exact hP9 | exact hL9 | exact hL8 | exact hP7 | exact hL7 | exact hA1 | exact hL0) (fun hHeld => ?_)
            clear hK K
            try simp only [List.getElem_toArray, List.getElem_cons_zero, List.getElem_cons_succ, Act.put, List.setIfInBounds_toArray, List.set_cons_zero, List.set_cons_succ]
            refine wpAnyH_done (by kernel_rfl) ?_ _
            refine NoPanic.normal ?_
            go_wp2_with fail
            go_meet
            case rel => first | exact ⟨_, rfl, hle8, hQ9, hP9⟩ | exact ⟨_, rfl, hle8, hQ9, hP7⟩
          · go_simp
            skip
            refine hK.out _ _ (by first | exact hP9 | exact hL9 | exact hL8 | exact hP7 | exact hL7 | exact hA1 | exact hL0) (fun hHeld => ?_)
            clear hK K
            try simp only [List.getElem_toArray, List.getElem_cons_zero, List.getElem_cons_succ, Act.put, List.setIfInBounds_toArray, List.set_cons_zero, List.set_cons_succ]
            refine wpAnyH_ready (rs := [14]) (by kernel_rfl) (by simp) ?_
            refine (AllReadyH.cons rfl (fun K hK => ?_) AllReadyH.nil)
            go_simp
            (refine (HBk.out _ (hWY.later hHeld)).mono ?_; rintro e w9 ⟨rfl, hb9⟩; have hL9 := bthen hHeld hb9; have hE9 := hE8.later hb9; obtain ⟨y0, y1, y2, y3⟩ := hE9.two; have hP9 := below_cell (below_cell hL9 hle8 0 (.int .i64 xa)) hle8 1 (.int .i64 xb); have hQ9 := (hE9.set 0 (.int .i64 xa)).set 1 (.int .i64 xb))
            refine hK.out _ _ (by first | exact hP9 | exact hL9 | exact hL8 | exact hP7 | exact hL7 | exact hA1 | exact hL0) (fun hHeld => ?_)
            clear hK K
            try dsimp only
            refine wpAnyH_ready (rs := [16]) (by kernel_rfl) (by simp) ?_
            refine (AllReadyH.cons rfl (fun K hK => ?_) AllReadyH.nil)
            go_simp
            skip
            refine hK.out _ _ (by first | exact hP9 | exact hL9 | exact hL8 | exact hP7 | exact hL7 | exact hA1 | exact hL0) (fun hHeld => ?_)
            clear hK K
            try simp only [List.getElem_toArray, List.getElem_cons_zero, List.getElem_cons_succ, Act.put, List.setIfInBounds_toArray, List.set_cons_zero, List.set_cons_succ]
            refine wpAnyH_done (by kernel_rfl) ?_ _
            refine NoPanic.normal ?_
            go_wp2_with fail
            go_meet
            case rel => first | exact ⟨_, rfl, hle8, hQ9, hP9⟩ | exact ⟨_, rfl, hle8, hQ9, hP7⟩
        · go_simp
          skip
          refine hK.out _ _ (by first | exact hP9 | exact hL9 | exact hL8 | exact hP7 | exact hL7 | exact hA1 | exact hL0) (fun hHeld => ?_)
          clear hK K
          try simp only [List.getElem_toArray, List.getElem_cons_zero, List.getElem_cons_succ, Act.put, List.setIfInBounds_toArray, List.set_cons_zero, List.set_cons_succ]
          refine wpAnyH_ready (rs := [13]) (by kernel_rfl) (by simp) ?_
          refine (AllReadyH.cons rfl (fun K hK => ?_) AllReadyH.nil)
          go_simp
          (refine (HP.out _ _ _).mono ?_; rintro e w8 ⟨rfl, hb8⟩; have hL8 := bthen hHeld hb8; have hE8 := hE1.later hb8; have hle8 : w2.heap.size ≤ w2.heap.size := Nat.le_refl _)
          refine hK.out _ _ (by first | exact hP9 | exact hL9 | exact hL8 | exact hP7 | exact hL7 | exact hA1 | exact hL0) (fun hHeld => ?_)
          clear hK K
          try dsimp only
          refine wpAnyH_ready (rs := [14]) (by kernel_rfl) (by simp) ?_
          refine (AllReadyH.cons rfl (fun K hK => ?_) AllReadyH.nil)
          go_simp
          (refine (HBk.out _ (hWY.later hHeld)).mono ?_; rintro e w9 ⟨rfl, hb9⟩; have hL9 := bthen hHeld hb9; have hE9 := hE8.later hb9; obtain ⟨y0, y1, y2, y3⟩ := hE9.two; have hP9 := below_cell (below_cell hL9 hle8 0 (.int .i64 xa)) hle8 1 (.int .i64 xb); have hQ9 := (hE9.set 0 (.int .i64 xa)).set 1 (.int .i64 xb))
          refine hK.out _ _ (by first | exact hP9 | exact hL9 | exact hL8 | exact hP7 | exact hL7 | exact hA1 | exact hL0) (fun hHeld => ?_)
          clear hK K
          try dsimp only
          refine wpAnyH_ready (rs := [16]) (by kernel_rfl) (by simp) ?_
          refine (AllReadyH.cons rfl (fun K hK => ?_) AllReadyH.nil)
          go_simp
          skip
          refine hK.out _ _ (by first | exact hP9 | exact hL9 | exact hL8 | exact hP7 | exact hL7 | exact hA1 | exact hL0) (fun hHeld => ?_)
          clear hK K
          try simp only [List.getElem_toArray, List.getElem_cons_zero, List.getElem_cons_succ, Act.put, List.setIfInBounds_toArray, List.set_cons_zero, List.set_cons_succ]
          refine wpAnyH_done (by kernel_rfl) ?_ _
          refine NoPanic.normal ?_
          go_wp2_with fail
          go_meet
          case rel => first | exact ⟨_, rfl, hle8, hQ9, hP9⟩ | exact ⟨_, rfl, hle8, hQ9, hP7⟩
      case rest =>
        obtain ⟨E, rfl, hE, HE, HB⟩ := hcut
        have hEg : g ≠ E := by have := HK2.out.b.lt; omega
        have HK3 := hid (HK2.out.later HB.out)
        obtain ⟨⟨c1, f1⟩, ⟨c2, f2⟩⟩ := HC.out _ HK3.out
        obtain ⟨y0, y1, _, _⟩ := HE.out.two
        have HK4 := hid (HN.out _ HK3.out)
        have mixed := mixed_orders
        have e1 : IntKind.i64.wrap ((m : Int) - 1) = (m : Int) - 1 := wrapk_of (by omega) (by omega)
        have e2 : IntKind.i64.wrap (q : Int) = (q : Int) := wrapk_of (by omega) (by omega)
        clear HK2 HP2 HE HB HK3 HN HC HBk HP hP0 hE
        go_wp2_with fail
        go_region_o
        go_wp2
        go_roundw
        case rel => exact ⟨k + 1, by go_num, by omega, HK4⟩
        case measure => simp [intOf]; omega
    · obtain rfl : k = r := by omega
      rw [HEnd.out] at HK
      go_wp2
      go_end0
      exact ⟨rfl, HK.out.b, HK.out.k⟩
end Go.Proofs.YtbakmphopgkpmaaDoor.TeB
