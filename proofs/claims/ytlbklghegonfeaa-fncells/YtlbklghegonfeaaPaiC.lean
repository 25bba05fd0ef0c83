/- The model's cells and the index of two numbers. Conditions: right sides, spreads and numbers for l10Cell and l10Join; none for what is exported. -/
import Derived.Test.YtlbklghegonfeaaPaiS
namespace Go.Proofs.Ytlbklghegonfeaa.PaiC
open Go.ChangeShapes Go.WideShapes Go.ChangeAt Go.RowKit Go.Proofs.Ytlbklghegonfeaa.Num Go.Proofs.Ytlbklghegonfeaa.Div Go.Proofs.Ytlbklghegonfeaa.Sli Go.Proofs.Ytlbklghegonfeaa.App Go.Proofs.Ytlbklghegonfeaa.Blk Go.Proofs.Ytlbklghegonfeaa.IntL Go.Proofs.Ytlbklghegonfeaa.IntA Go.Proofs.Ytlbklghegonfeaa.Par Go.Proofs.Ytlbklghegonfeaa.HalM Go.Proofs.Ytlbklghegonfeaa.PaiM Go.Proofs.Ytlbklghegonfeaa.PaiS

theorem ceP_zero (v k : Int) (t : Bool) (q : Int) : ceP 0 v k t q = (ixB q && (paF q k t == v)) := by unfold ceP; simp
theorem ceP_one (v k : Int) (t : Bool) (q : Int) : ceP 1 v k t q = (ixB q && (paG q k t == v)) := by unfold ceP; simp
theorem ceI_yes {s v k : Int} {t : Bool} {i : Nat} (h : ceP s v k t (ceQ v k i) = true) : ceI s v k t (i + 1) = ceI s v k t i ++ [ceQ v k i] := by rw [ceI_succ, if_pos h]
theorem ceI_no {s v k : Int} {t : Bool} {i : Nat} (h : ceP s v k t (ceQ v k i) = false) : ceI s v k t (i + 1) = ceI s v k t i := by rw [ceI_succ, if_neg (by rw [h]; decide), List.append_nil]
theorem ceQ_bd {v k : Int} (hv : -30000 ≤ v ∧ v ≤ 30000) (hk : spB k = true) : -90000 ≤ (k + 1) * v ∧ (k + 1) * v ≤ 90000 := by
  rcases sp_cases hk with rfl | rfl | rfl <;> omega
theorem ce_in {s v k : Int} {t : Bool} {i : Nat} (h : i < (ceL s v k t).length) : -30000 ≤ (ceL s v k t).getD i 0 ∧ (ceL s v k t).getD i 0 ≤ 30000 := by
  have hm : (ceL s v k t).getD i 0 ∈ ceL s v k t := by
    rw [List.getD_eq_getElem?_getD, List.getElem?_eq_getElem h]; exact List.getElem_mem h
  have : ceP s v k t ((ceL s v k t).getD i 0) = true := (List.mem_filter.1 hm).2
  unfold ceP at this
  simp only [Bool.and_eq_true] at this
  exact of_inB this.1
set_option maxRecDepth 100000 in
set_option maxHeartbeats 2000000 in
theorem l10Cell_zero (v k : Int) (t : Bool) (w : World) (hv : -30000 ≤ v ∧ v ≤ 30000) (hk : spB k = true) :
    Calls Try.prog 20 #[.int .i64 0, .int .i64 v, .int .i64 k, .bool t] w fun e w' => ∃ u, e = .returned u ∧ OwI w.heap.size w' u (ceL 0 v k t) ∧ Below w.heap.size w w' := by
  have HSp := hid l10Split_calls
  have HIx := hid l10Index_calls
  have hb := ceQ_bd hv hk
  have hkb := of_inB hk
  have HE : Hid (∀ i, ceQ v k i = (k + 1) * v - 3 + (i : Int)) := fun _ => rfl
  have HY := hid (fun i => @ceI_yes 0 v k t i)
  have HN := hid (fun i => @ceI_no 0 v k t i)
  have HP := hid (fun q => ceP_zero v k t q)
  have HL := hid (fun i => ceI_len 0 v k t i)
  have H7 : Hid (ceL 0 v k t = ceI 0 v k t 7) := rfl
  have H0 := hid (ow_new .i64 2 w.heap.size w (Nat.le_refl _))
  have HB0 := hid (bmore (Below.refl _ w) (.cells #[] 2))
  rw [H7.out]
  clear hk H7
  go_enter Try.func20, Try.ntmps20
  go_wp2_with fail
  go_loopw [9, 10] (fun o q wr => ∃ i g cap n : Nat, i ≤ 7 ∧ o = .slice (some ⟨g, 0, none⟩) n cap ∧ q = .int .i64 ((k + 1) * v - 3 + (i : Int)) ∧ Hid (n = (ceI 0 v k t i).length) ∧ Hid (OwI w.heap.size wr (.slice (some ⟨g, 0, none⟩) n cap) (ceI 0 v k t i)) ∧ Hid (Below w.heap.size w wr)) (fun _ q _ => ((k + 1) * v + 4 - intOf q).toNat)
  case atStart => exact ⟨0, _, _, _, by omega, rfl, by go_num, rfl, H0.out, HB0.out⟩
  case round =>
    obtain ⟨i, g, cap, n, hi, rfl, rfl, hn, hO, hB⟩ := hrel
    clear H0 HB0
    by_cases hlt : i < 7
    · obtain ⟨q, hq⟩ : ∃ q, (k + 1) * v - 3 + (i : Int) = q := ⟨_, rfl⟩
      have hq2 : ceQ v k i = q := by rw [HE.out, ← hq]
      have hY := HY.out i
      have hN := HN.out i
      have hP := HP.out q
      rw [hq2] at hY hN
      have hqb : -100000 ≤ q ∧ q ≤ 100000 := by omega
      have hqM : q ≤ (k + 1) * v + 3 := by omega
      have hq4 : (k + 1) * v - 3 + ((i + 1 : Nat) : Int) = q + 1 := by omega
      have HS := hid (fun W => HSp.out q k t W (by omega) (by omega))
      have HX := hid (fun W => HIx.out q W)
      have hll := HL.out i
      have HQ := hid hq
      rw [hq]
      clear HE HY HN HP HSp HIx HL hq hq2 HQ
      generalize paF q k t = f at *
      generalize paG q k t = gg at *
      cases hx : ixB q
      · have hno := hN (by rw [hP, hx]; rfl)
        rw [hx] at HX
        have HR := hid hno
        have hq4' := hid hq4
        clear hno hN hY hP hx hll hq4
        go_wp2_with (first | (go_at_call 33; refine (HS.out _).mono ?_; rintro e w' ⟨rfl, rfl⟩) | (go_at_call 19; refine (HX.out _).mono ?_; rintro e w' ⟨rfl, rfl⟩))
        go_roundw
        case rel => exact ⟨i + 1, g, cap, n, by omega, rfl, by rw [hq4'.out], by rw [HR.out]; exact hn, by rw [HR.out]; exact hO, hB⟩
        case measure => simp [intOf]; omega
      · rw [hx] at HX
        by_cases hf : f = v
        · have hyes := hY (by rw [hP, hx]; simpa using hf)
          have HR := hid hyes
          have hq4' := hid hq4
          have HLL := hid hll
          clear hyes hN hY hP hx hll hq4
          have HO1 := hid (hO.out.alloc (.cells #[.int .i64 q] 2))
          have HB1 := hid (bmore hB.out (.cells #[.int .i64 q] 2))
          have hsz := hB.out.size
          generalize ceI 0 v k t i = ys at *
          go_wp2_with (first | (go_at_call 33; refine (HS.out _).mono ?_; rintro e w' ⟨rfl, rfl⟩) | (go_at_call 19; refine (HX.out _).mono ?_; rintro e w' ⟨rfl, rfl⟩) | (at_builtin; refine wpList_append_ints _ rfl _ _ rfl w.heap.size _ ys rfl HO1.out _ [q] rfl (sl_lit _ _ _ _ _ _ rfl rfl) (by simp) ?c1 ?c2 ?_))
          case c1 => have := HLL.out; simp only [List.length_singleton]; omega
          case c2 => simp; omega
          intro g5 cap5 n5 w5 hn5 ho5 hg5 _
          have HB5 := hid (HB1.out.trans (below_of_grown hg5 (by simp; omega) (fun j e => (HO1.out.block j e).1)))
          have HO5 := hid ho5
          have HN5 : Hid (n5 = (ys ++ [q]).length) := by show _ = _; simp only [List.length_append, List.length_singleton] at hn5 ⊢; exact hn5
          clear hn5 ho5 hg5 HO1 HB1 hO hB
          go_wp2
          go_roundw
          case rel => exact ⟨i + 1, g5, cap5, n5, by omega, rfl, by rw [hq4'.out], by rw [HR.out]; exact HN5.out, by rw [HR.out]; exact HO5.out, HB5.out⟩
          case measure => simp [intOf]; omega
        · have hno := hN (by rw [hP, hx]; simpa using hf)
          have HR := hid hno
          have hq4' := hid hq4
          have hb1 : (f == v) = false := by simpa using hf
          clear hno hN hY hP hx hll hq4
          go_wp2_with (first | (go_at_call 33; refine (HS.out _).mono ?_; rintro e w' ⟨rfl, rfl⟩) | (go_at_call 19; refine (HX.out _).mono ?_; rintro e w' ⟨rfl, rfl⟩))
          go_roundw
          case rel => exact ⟨i + 1, g, cap, n, by omega, rfl, by rw [hq4'.out], by rw [HR.out]; exact hn, by rw [HR.out]; exact hO, hB⟩
          case measure => simp [intOf]; omega
    · obtain rfl : i = 7 := by omega
      clear HE HY HN HP HSp HIx HL
      go_wp2
      go_ret
      exact ⟨_, rfl, hO.out, hB.out⟩
set_option maxRecDepth 100000 in
set_option maxHeartbeats 2000000 in
theorem l10Cell_one (v k : Int) (t : Bool) (w : World) (hv : -30000 ≤ v ∧ v ≤ 30000) (hk : spB k = true) :
    Calls Try.prog 20 #[.int .i64 1, .int .i64 v, .int .i64 k, .bool t] w fun e w' => ∃ u, e = .returned u ∧ OwI w.heap.size w' u (ceL 1 v k t) ∧ Below w.heap.size w w' := by
  have HSp := hid l10Split_calls
  have HIx := hid l10Index_calls
  have hb := ceQ_bd hv hk
  have hkb := of_inB hk
  have HE : Hid (∀ i, ceQ v k i = (k + 1) * v - 3 + (i : Int)) := fun _ => rfl
  have HY := hid (fun i => @ceI_yes 1 v k t i)
  have HN := hid (fun i => @ceI_no 1 v k t i)
  have HP := hid (fun q => ceP_one v k t q)
  have HL := hid (fun i => ceI_len 1 v k t i)
  have H7 : Hid (ceL 1 v k t = ceI 1 v k t 7) := rfl
  have H0 := hid (ow_new .i64 2 w.heap.size w (Nat.le_refl _))
  have HB0 := hid (bmore (Below.refl _ w) (.cells #[] 2))
  rw [H7.out]
  clear hk H7
  go_enter Try.func20, Try.ntmps20
  go_wp2_with fail
  go_loopw [9, 10] (fun o q wr => ∃ i g cap n : Nat, i ≤ 7 ∧ o = .slice (some ⟨g, 0, none⟩) n cap ∧ q = .int .i64 ((k + 1) * v - 3 + (i : Int)) ∧ Hid (n = (ceI 1 v k t i).length) ∧ Hid (OwI w.heap.size wr (.slice (some ⟨g, 0, none⟩) n cap) (ceI 1 v k t i)) ∧ Hid (Below w.heap.size w wr)) (fun _ q _ => ((k + 1) * v + 4 - intOf q).toNat)
  case atStart => exact ⟨0, _, _, _, by omega, rfl, by go_num, rfl, H0.out, HB0.out⟩
  case round =>
    obtain ⟨i, g, cap, n, hi, rfl, rfl, hn, hO, hB⟩ := hrel
    clear H0 HB0
    by_cases hlt : i < 7
    · obtain ⟨q, hq⟩ : ∃ q, (k + 1) * v - 3 + (i : Int) = q := ⟨_, rfl⟩
      have hq2 : ceQ v k i = q := by rw [HE.out, ← hq]
      have hY := HY.out i
      have hN := HN.out i
      have hP := HP.out q
      rw [hq2] at hY hN
      have hqb : -100000 ≤ q ∧ q ≤ 100000 := by omega
      have hqM : q ≤ (k + 1) * v + 3 := by omega
      have hq4 : (k + 1) * v - 3 + ((i + 1 : Nat) : Int) = q + 1 := by omega
      have HS := hid (fun W => HSp.out q k t W (by omega) (by omega))
      have HX := hid (fun W => HIx.out q W)
      have hll := HL.out i
      have HQ := hid hq
      rw [hq]
      clear HE HY HN HP HSp HIx HL hq hq2 HQ
      generalize paF q k t = f at *
      generalize paG q k t = gg at *
      cases hx : ixB q
      · have hno := hN (by rw [hP, hx]; rfl)
        rw [hx] at HX
        have HR := hid hno
        have hq4' := hid hq4
        clear hno hN hY hP hx hll hq4
        go_wp2_with (first | (go_at_call 33; refine (HS.out _).mono ?_; rintro e w' ⟨rfl, rfl⟩) | (go_at_call 19; refine (HX.out _).mono ?_; rintro e w' ⟨rfl, rfl⟩))
        go_roundw
        case rel => exact ⟨i + 1, g, cap, n, by omega, rfl, by rw [hq4'.out], by rw [HR.out]; exact hn, by rw [HR.out]; exact hO, hB⟩
        case measure => simp [intOf]; omega
      · rw [hx] at HX
        by_cases hf : gg = v
        · have hyes := hY (by rw [hP, hx]; simpa using hf)
          have HR := hid hyes
          have hq4' := hid hq4
          have HLL := hid hll
          clear hyes hN hY hP hx hll hq4
          have HO1 := hid (hO.out.alloc (.cells #[.int .i64 q] 2))
          have HB1 := hid (bmore hB.out (.cells #[.int .i64 q] 2))
          have hsz := hB.out.size
          generalize ceI 1 v k t i = ys at *
          go_wp2_with (first | (go_at_call 33; refine (HS.out _).mono ?_; rintro e w' ⟨rfl, rfl⟩) | (go_at_call 19; refine (HX.out _).mono ?_; rintro e w' ⟨rfl, rfl⟩) | (at_builtin; refine wpList_append_ints _ rfl _ _ rfl w.heap.size _ ys rfl HO1.out _ [q] rfl (sl_lit _ _ _ _ _ _ rfl rfl) (by simp) ?c1 ?c2 ?_))
          case c1 => have := HLL.out; simp only [List.length_singleton]; omega
          case c2 => simp; omega
          intro g5 cap5 n5 w5 hn5 ho5 hg5 _
          have HB5 := hid (HB1.out.trans (below_of_grown hg5 (by simp; omega) (fun j e => (HO1.out.block j e).1)))
          have HO5 := hid ho5
          have HN5 : Hid (n5 = (ys ++ [q]).length) := by show _ = _; simp only [List.length_append, List.length_singleton] at hn5 ⊢; exact hn5
          clear hn5 ho5 hg5 HO1 HB1 hO hB
          go_wp2
          go_roundw
          case rel => exact ⟨i + 1, g5, cap5, n5, by omega, rfl, by rw [hq4'.out], by rw [HR.out]; exact HN5.out, by rw [HR.out]; exact HO5.out, HB5.out⟩
          case measure => simp [intOf]; omega
        · have hno := hN (by rw [hP, hx]; simpa using hf)
          have HR := hid hno
          have hq4' := hid hq4
          have hb1 : (gg == v) = false := by simpa using hf
          clear hno hN hY hP hx hll hq4
          go_wp2_with (first | (go_at_call 33; refine (HS.out _).mono ?_; rintro e w' ⟨rfl, rfl⟩) | (go_at_call 19; refine (HX.out _).mono ?_; rintro e w' ⟨rfl, rfl⟩))
          go_roundw
          case rel => exact ⟨i + 1, g, cap, n, by omega, rfl, by rw [hq4'.out], by rw [HR.out]; exact hn, by rw [HR.out]; exact hO, hB⟩
          case measure => simp [intOf]; omega
    · obtain rfl : i = 7 := by omega
      clear HE HY HN HP HSp HIx HL
      go_wp2
      go_ret
      exact ⟨_, rfl, hO.out, hB.out⟩
theorem l10Cell_calls (s v k : Int) (t : Bool) (w : World) (hs : inB 0 1 s = true) (hv : -30000 ≤ v ∧ v ≤ 30000) (hk : spB k = true) :
    Calls Try.prog 20 #[.int .i64 s, .int .i64 v, .int .i64 k, .bool t] w fun e w' => ∃ u, e = .returned u ∧ OwI w.heap.size w' u (ceL s v k t) ∧ Below w.heap.size w w' := by
  have := of_inB hs
  have e : s = 0 ∨ s = 1 := by omega
  rcases e with rfl | rfl
  · exact l10Cell_zero v k t w hv hk
  · exact l10Cell_one v k t w hv hk
set_option maxHeartbeats 1000000 in
theorem specCellOf_calls (s v k : Int) (t : Bool) (w : World) : Calls Try.prog 7 #[.int .i64 s, .int .i64 v, .int .i64 k, .bool t] w fun e w' => ∃ u, e = .returned (.agg #[.int .i64 (xiC s v k), u]) ∧ OwI w.heap.size w' u (clL s v k t) ∧ Below w.heap.size w w' := by
  have HK := hid (l10Side_calls s k)
  have HX := hid (l10Index_calls v)
  cases hk : sdO s k
  · have ho : xiO s v k = false := by unfold xiO; rw [hk]; rfl
    have H : Hid (3 = xiC s v k ∧ [] = clL s v k t) := ⟨(if_neg (by rw [ho]; decide)).symm, (if_neg (by rw [ho]; decide)).symm⟩
    rw [hk] at HK
    clear hk ho
    go_enter Try.func7, Try.ntmps7
    go_wp2_with (go_at_call 18; refine (HK.out _).mono ?_; rintro e w' ⟨rfl, rfl⟩)
    exact bodyPost_ret (v := .agg #[.int .i64 3, .slice none 0 0]) (by simp [results, Try.results7, go_sem]) rfl ⟨_, by rw [← H.out.1], by rw [← H.out.2]; exact World.ownsRow_nil _ _ _ _, bmore (Below.refl _ _) _⟩
  · cases hx : ixB v
    · have ho : xiO s v k = false := by unfold xiO; rw [hk, hx]; rfl
      have H : Hid (3 = xiC s v k ∧ [] = clL s v k t) := ⟨(if_neg (by rw [ho]; decide)).symm, (if_neg (by rw [ho]; decide)).symm⟩
      rw [hk] at HK
      rw [hx] at HX
      clear hk hx ho
      go_enter Try.func7, Try.ntmps7
      go_wp2_with (first | (go_at_call 18; refine (HK.out _).mono ?_; rintro e w' ⟨rfl, rfl⟩) | (go_at_call 19; refine (HX.out _).mono ?_; rintro e w' ⟨rfl, rfl⟩))
      exact bodyPost_ret (v := .agg #[.int .i64 3, .slice none 0 0]) (by simp [results, Try.results7, go_sem]) rfl ⟨_, by rw [← H.out.1], by rw [← H.out.2]; exact World.ownsRow_nil _ _ _ _, bmore (Below.refl _ _) _⟩
    · have ho : xiO s v k = true := by unfold xiO; rw [hk, hx]; rfl
      have H : Hid (0 = xiC s v k ∧ ceL s v k t = clL s v k t) := ⟨(if_pos ho).symm, (if_pos ho).symm⟩
      have hs1 : inB 0 1 s = true := by unfold sdO at hk; simp at hk; exact hk.1
      have hk1 : spB k = true := by unfold sdO at hk; simp at hk; exact hk.2
      have HCl := hid (l10Cell_calls s v k t (w.alloc (.cells #[.int .i64 0, .slice none 0 0] 28)) hs1 (of_inB hx) hk1)
      rw [hk] at HK
      rw [hx] at HX
      clear hk hx ho hs1 hk1
      generalize ceL s v k t = l at *
      go_enter Try.func7, Try.ntmps7
      go_wp2_with (first | (go_at_call 18; refine (HK.out _).mono ?_; rintro e w' ⟨rfl, rfl⟩) | (go_at_call 19; refine (HX.out _).mono ?_; rintro e w' ⟨rfl, rfl⟩) | fail)
      refine HCl.out.mono ?_
      rintro e w1 ⟨u, rfl, hO, hB⟩
      obtain ⟨au, cu, hu, _⟩ := hO.sl
      subst hu
      obtain ⟨c0, c1, f0, f1⟩ := ((Blk.new w #[.int .i64 0, .slice none 0 0] 28).later hB).two
      have HB := hid (below_set2 (bthen (bmore (Below.refl w.heap.size w) _) hB) (.int .i64 0) (.slice au l.length cu))
      have hO2 : OwI (w.heap.size + 1) w1 (.slice au l.length cu) l := by simpa using hO
      have HO := hid (hO2.set2 (.int .i64 0) (.slice au l.length cu))
      clear hB HCl hO hO2
      go_wp2
      exact bodyPost_ret (v := .agg #[.int .i64 0, .slice au l.length cu]) (by simp [results, Try.results7, go_sem, c0, c1]) rfl ⟨_, by rw [← H.out.1], by rw [← H.out.2]; exact HO.out, HB.out⟩
end Go.Proofs.Ytlbklghegonfeaa.PaiC
