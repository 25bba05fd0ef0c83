/- The program's index for two paths: gaps, cells, the five faces. Conditions: numbers within bounds and right sides for what is not exported; none for the faces. -/
import Derived.Test.YtlbklghegonfeaaPaiH
namespace Go.Proofs.Ytlbklghegonfeaa.PaiI
open Go.ChangeShapes Go.WideShapes Go.ChangeAt Go.RowKit Go.Proofs.Ytlbklghegonfeaa.Num Go.Proofs.Ytlbklghegonfeaa.Div Go.Proofs.Ytlbklghegonfeaa.Sli Go.Proofs.Ytlbklghegonfeaa.App Go.Proofs.Ytlbklghegonfeaa.Blk Go.Proofs.Ytlbklghegonfeaa.IntL Go.Proofs.Ytlbklghegonfeaa.IntA Go.Proofs.Ytlbklghegonfeaa.Par Go.Proofs.Ytlbklghegonfeaa.HalM Go.Proofs.Ytlbklghegonfeaa.PaiM Go.Proofs.Ytlbklghegonfeaa.PaiC Go.Proofs.Ytlbklghegonfeaa.PaiH

set_option maxHeartbeats 2000000 in
theorem gaps_of (a b : Int) (T : TypeId) (y2 y3 : Bool) (t : Bool) (w : World) (h2 : ∀ w : World, (Instr.typeAssert (.iface T (.agg #[])) 39 65 true).run Try.prog w = .ok (.tuple #[.agg #[], .bool y2]) w) (h3 : ∀ w : World, (Instr.typeAssert (.iface T (.agg #[])) 39 66 true).run Try.prog w = .ok (.tuple #[.agg #[], .bool y3]) w)
    (ha : a = (if y2 = true then 1 else if y3 = true then 1 else 0)) (hb : b = (if y2 = true then 1 else if y3 = true then 2 else 0)) :
    Calls Try.prog 21 #[.agg #[.iface T (.agg #[]), .bool t]] w fun e w' => e = .returned (.agg #[.int .i64 (if t = true then b else a), .int .i64 (if t = true then a else b)]) ∧ Below w.heap.size w w' := by
  have HS := hid (sides_calls (.iface T (.agg #[])) t a b)
  generalize (if t = true then b else a) = p at *
  generalize (if t = true then a else b) = q at *
  cases y2
  · cases y3
    · obtain rfl : a = 0 := ha
      obtain rfl : b = 0 := hb
      go_enter Try.func21, Try.ntmps21
      go_wp2_with fail
      refine (HS.out _).mono ?_
      rintro e w1 ⟨rfl, hb1⟩
      obtain ⟨_, hR, _, hL, hz⟩ := boxes3 hb1
      obtain ⟨r0, r1, f0, f1⟩ := hR.two
      clear hb1 h2 h3 HS hR
      go_wp2
      exact bodyPost_ret (v := .agg #[.int .i64 p, .int .i64 q]) (by simp [results, Try.results21, go_sem, r0, r1]) rfl ⟨rfl, below_cell (below_cell hL (by omega) _ _) (by omega) _ _⟩
    · obtain rfl : a = 1 := ha
      obtain rfl : b = 2 := hb
      go_enter Try.func21, Try.ntmps21
      go_wp2_with fail
      refine (HS.out _).mono ?_
      rintro e w1 ⟨rfl, hb1⟩
      obtain ⟨_, hR, _, hL, hz⟩ := boxes3 hb1
      obtain ⟨r0, r1, f0, f1⟩ := hR.two
      clear hb1 h2 h3 HS hR
      go_wp2
      exact bodyPost_ret (v := .agg #[.int .i64 p, .int .i64 q]) (by simp [results, Try.results21, go_sem, r0, r1]) rfl ⟨rfl, below_cell (below_cell hL (by omega) _ _) (by omega) _ _⟩
  · obtain rfl : a = 1 := ha
    obtain rfl : b = 1 := hb
    go_enter Try.func21, Try.ntmps21
    go_wp2_with fail
    refine (HS.out _).mono ?_
    rintro e w1 ⟨rfl, hb1⟩
    obtain ⟨_, hR, _, hL, hz⟩ := boxes3 hb1
    obtain ⟨r0, r1, f0, f1⟩ := hR.two
    clear hb1 h2 h3 HS hR
    go_wp2
    exact bodyPost_ret (v := .agg #[.int .i64 p, .int .i64 q]) (by simp [results, Try.results21, go_sem, r0, r1]) rfl ⟨rfl, below_cell (below_cell hL (by omega) _ _) (by omega) _ _⟩
theorem gaps_calls (T : TypeId) (k : Int) (t : Bool) (w : World) (h : SP T k) : Calls Try.prog 21 #[.agg #[.iface T (.agg #[]), .bool t]] w fun e w' => e = .returned (.agg #[.int .i64 (ofV 0 k t), .int .i64 (ofV 1 k t)]) ∧ Below w.heap.size w w' := by
  rcases h with ⟨rfl, rfl⟩ | ⟨rfl, rfl⟩ | ⟨rfl, rfl⟩
  · have := gaps_of 0 0 64 false false t w (fun _ => by kernel_rfl) (fun _ => by kernel_rfl) rfl rfl
    rw [show ofV 0 0 t = (if t = true then 0 else 0) by cases t <;> rfl, show ofV 1 0 t = (if t = true then 0 else 0) by cases t <;> rfl]
    exact this
  · have := gaps_of 1 1 65 true false t w (fun _ => by kernel_rfl) (fun _ => by kernel_rfl) rfl rfl
    rw [show ofV 0 1 t = (if t = true then 1 else 1) by cases t <;> rfl, show ofV 1 1 t = (if t = true then 1 else 1) by cases t <;> rfl]
    exact this
  · have := gaps_of 1 2 66 false true t w (fun _ => by kernel_rfl) (fun _ => by kernel_rfl) rfl rfl
    rw [show ofV 0 2 t = (if t = true then 2 else 1) by cases t <;> rfl, show ofV 1 2 t = (if t = true then 1 else 2) by cases t <;> rfl]
    exact this
theorem at_calls (a b s : Int) (w : World) : Calls Try.prog 22 #[.agg #[.int .i64 a, .int .i64 b], .int .i64 s] w fun e w' => e = .returned (.int .i64 (if s = 0 then a else b)) ∧ Below w.heap.size w w' := by
  by_cases h : s = 0
  · subst h
    go_enter Try.func22, Try.ntmps22
    go_wp2
    go_ret
    exact ⟨rfl, bmore (Below.refl _ _) _⟩
  · rw [if_neg h]
    have b1 : (s == 0) = false := by simpa using h
    clear h
    go_enter Try.func22, Try.ntmps22
    go_wp2
    go_ret
    exact ⟨rfl, bmore (Below.refl _ _) _⟩
theorem eq_pair (x y a b : Int) (W : World) : (binOp .eql 51 (.agg #[.int .i64 x, .int .i64 y]) (.agg #[.int .i64 a, .int .i64 b])).run Try.prog W = .ok (.bool (x == a && y == b)) W := by
  by_cases h1 : x = a
  · by_cases h2 : y = b
    · simp [go_sem, h1, h2]
    · simp [go_sem, h1, h2]
  · simp [go_sem, h1]
/-- Cells: where they begin and end. -/
theorem ceP_is {s v k : Int} {t : Bool} {q : Int} (hs : inB 0 1 s = true) : ceP s v k t q = (ixB q && ((if s = 0 then paF q k t else paG q k t) == v)) := by
  have := of_inB hs
  have e : s = 0 ∨ s = 1 := by omega
  rcases e with rfl | rfl
  · exact ceP_zero v k t q
  · exact ceP_one v k t q
theorem of_is {s k : Int} {t : Bool} (hs : inB 0 1 s = true) : ofV s k t = (if s = 0 then ofV 0 k t else ofV 1 k t) := by
  have := of_inB hs
  have e : s = 0 ∨ s = 1 := by omega
  rcases e with rfl | rfl <;> rfl
theorem ce_far {s v k : Int} {t : Bool} {q : Int} (hk : spB k = true) (hs : inB 0 1 s = true) (h : ofV s k t < absV ((k + 1) * v - q)) : ceP s v k t q = false := by
  cases hc : ceP s v k t q
  · rfl
  · exfalso
    rw [ceP_is hs] at hc
    simp at hc
    have ho := off_side (q := q) (t := t) hk
    rw [of_is hs] at h
    by_cases e : s = 0
    · rw [if_pos e] at hc h; rw [← hc.2] at h; omega
    · rw [if_neg e] at hc h; rw [← hc.2] at h; omega
theorem ce_lo {s v k : Int} {t : Bool} (hk : spB k = true) (hs : inB 0 1 s = true) {g : Nat} (hg : ofV s k t = g) : ∀ i : Nat, i + g ≤ 3 → ceI s v k t i = [] := by
  intro i
  induction i with
  | zero => intro _; rfl
  | succ n ih =>
    intro h
    rw [ceI_no (ce_far hk hs (by
      have := absV_bd ((k + 1) * v - ceQ v k n)
      have e : ceQ v k n = (k + 1) * v - 3 + (n : Int) := rfl
      omega))]
    exact ih (by omega)
theorem ce_hi {s v k : Int} {t : Bool} (hk : spB k = true) (hs : inB 0 1 s = true) {g : Nat} (hg : ofV s k t = g) : ∀ j : Nat, ceI s v k t (4 + g + j) = ceI s v k t (4 + g) := by
  intro j
  induction j with
  | zero => rfl
  | succ n ih =>
    rw [show 4 + g + (n + 1) = (4 + g + n) + 1 by omega, ceI_no (ce_far hk hs (by
      have := absV_bd ((k + 1) * v - ceQ v k (4 + g + n))
      have e : ceQ v k (4 + g + n) = (k + 1) * v - 3 + ((4 + g + n : Nat) : Int) := rfl
      omega))]
    exact ih
theorem ce_end {s v k : Int} {t : Bool} (hk : spB k = true) (hs : inB 0 1 s = true) {g : Nat} (hg : ofV s k t = g) (h2 : g ≤ 2) : ceL s v k t = ceI s v k t (4 + g) := by
  have := ce_hi (v := v) hk hs hg (3 - g)
  rw [show 4 + g + (3 - g) = 7 by omega] at this
  exact this
theorem owi_nil (base : Nat) (w : World) : OwI base w (.slice none 0 0) [] := ⟨rfl, .inl ⟨rfl, rfl⟩⟩

set_option maxRecDepth 100000 in
set_option maxHeartbeats 4000000 in
theorem cell_calls (T : TypeId) (s v k : Int) (t : Bool) (w : World) (h : SP T k) (hs : inB 0 1 s = true) (hv : -30000 ≤ v ∧ v ≤ 30000) :
    Calls Try.prog 17 #[.agg #[.iface T (.agg #[]), .bool t], .int .i64 s, .int .i64 v] w fun e w' => ∃ u, e = .returned u ∧ OwI w.heap.size w' u (ceL s v k t) ∧ Below w.heap.size w w' := by
  have hk := sp_is h
  have hb := ceQ_bd hv hk
  have hgb := of_bd (s := s) (t := t) hk
  obtain ⟨g, hg⟩ : ∃ g : Nat, ofV s k t = g := ⟨(ofV s k t).toNat, by omega⟩
  have hg2 : g ≤ 2 := by omega
  have HM := hid (fun W => middle_calls T k v t W h (by omega))
  have HG := hid (fun W => gaps_calls T k t W h)
  have HA := hid (fun W => at_calls (ofV 0 k t) (ofV 1 k t) s W)
  rw [← of_is hs, hg] at HA
  have HN := hid (fun q W (hq : -1000000 ≤ q ∧ q ≤ 1000000) => numbersOf_calls T k q t W h hq)
  have HX := hid isIndex_calls
  have HT := hid at_calls
  have HP := hid (fun q => @ceP_is s v k t q hs)
  have HY := hid (fun i => @ceI_yes s v k t i)
  have HNo := hid (fun i => @ceI_no s v k t i)
  have HL := hid (fun i => ceI_len s v k t i)
  have H0 : Hid (ceI s v k t (3 - g) = []) := ce_lo hk hs hg (3 - g) (by omega)
  have HE : Hid (ceL s v k t = ceI s v k t (4 + g)) := ce_end hk hs hg hg2
  have HQ : Hid (∀ i : Nat, ceQ v k i = (k + 1) * v - 3 + (i : Int)) := fun _ => rfl
  have hV := Blk.new w #[.iface T (.agg #[]), .bool t] 41
  have hL := bmore (Below.refl _ w) (.cells #[.iface T (.agg #[]), .bool t] 41)
  clear hg hgb hk h hs hv
  generalize ofV 0 k t = o0 at *
  generalize ofV 1 k t = o1 at *
  generalize hM : (k + 1) * v = M at *
  clear hM
  go_enter Try.func17, Try.ntmps17
  go_upto_region 1 with fail
  generalize w.alloc (.cells #[.iface T (.agg #[]), .bool t] 41) = wr at *
  go_cut [7, 8] from 7 to 17 (fun m o wc => m = .int .i64 M ∧ o = .int .i64 (g : Int) ∧ Hid (Blk wc w.heap.size #[.iface T (.agg #[]), .bool t] 41) ∧ Hid (Below w.heap.size w wc))
  case first =>
    have hL0 : Below wr.heap.size wr wr.drew := (Below.refl _ wr).drew
    refine wp_region_noPanic ?_
    refine wp_region_held_drew (S := fun W => Below wr.heap.size wr W) (by kernel_rfl) (by first | exact hL3 | exact hL2 | exact hL1 | exact hL0) (fun hHeld => ?_)
    (refine wpAnyH_take (i := 0) (v := ?_) rfl (by kernel_rfl) (by kernel_rfl) (by kernel_rfl) (fun _ _ _ h => h) (Or.inl ⟨by rfl, ?_⟩) hHeld ?_; rotate_left; (intro w hSw; (have s0 := (hV.later hSw).cell 0; have s1 := (hV.later hSw).cell 1; clear hSw); (go_simp <;> with_reducible rfl)); simp only [List.getElem_toArray, List.getElem_cons_zero, Act.put, List.setIfInBounds_toArray, List.set_cons_zero, List.set_cons_succ])
    (refine wpAnyH_take (i := 1) (v := ?_) rfl (by kernel_rfl) (by kernel_rfl) (by kernel_rfl) (fun _ _ _ h => h) (Or.inl ⟨by rfl, ?_⟩) hHeld ?_; rotate_left; (intro w hSw; (have s0 := (hV.later hSw).cell 0; have s1 := (hV.later hSw).cell 1; clear hSw); (go_simp <;> with_reducible rfl)); simp only [List.getElem_toArray, List.getElem_cons_zero, List.getElem_cons_succ, Act.put, List.setIfInBounds_toArray, List.set_cons_zero, List.set_cons_succ])
    (refine wpAnyH_take (i := 3) (v := ?_) rfl (by kernel_rfl) (by kernel_rfl) (by kernel_rfl) (fun _ _ _ h => h) (Or.inl ⟨by rfl, ?_⟩) hHeld ?_; rotate_left; (intro w hSw; (have s0 := (hV.later hSw).cell 0; have s1 := (hV.later hSw).cell 1; clear hSw); (go_simp <;> with_reducible rfl)); simp only [List.getElem_toArray, List.getElem_cons_zero, List.getElem_cons_succ, Act.put, List.setIfInBounds_toArray, List.set_cons_zero, List.set_cons_succ])
    (refine wpAnyH_take (i := 5) (v := ?_) rfl (by kernel_rfl) (by kernel_rfl) (by kernel_rfl) (fun _ _ _ h => h) (Or.inl ⟨by rfl, ?_⟩) hHeld ?_; rotate_left; (intro w hSw; (have s0 := (hV.later hSw).cell 0; have s1 := (hV.later hSw).cell 1; clear hSw); (go_simp <;> with_reducible rfl)); simp only [List.getElem_toArray, List.getElem_cons_zero, List.getElem_cons_succ, Act.put, List.setIfInBounds_toArray, List.set_cons_zero, List.set_cons_succ])
    refine wpAnyH_ready (rs := [2]) (by kernel_rfl) (by simp) ?_
    refine (AllReadyH.cons rfl (fun K hK => ?_) AllReadyH.nil)
    go_simp
    (refine (HM.out _).mono ?_; rintro e w2 ⟨rfl, hb2⟩; have hL1 := bthen hHeld hb2)
    refine hK.out _ _ (by first | exact hL3 | exact hL2 | exact hL1 | exact hL0) (fun hHeld => ?_)
    clear hK K
    try dsimp only
    refine wpAnyH_ready (rs := [4]) (by kernel_rfl) (by simp) ?_
    refine (AllReadyH.cons rfl (fun K hK => ?_) AllReadyH.nil)
    go_simp
    (refine (HG.out _).mono ?_; rintro e w3 ⟨rfl, hb3⟩; have hL2 := bthen hHeld hb3)
    refine hK.out _ _ (by first | exact hL3 | exact hL2 | exact hL1 | exact hL0) (fun hHeld => ?_)
    clear hK K
    try dsimp only
    refine wpAnyH_ready (rs := [6]) (by kernel_rfl) (by simp) ?_
    refine (AllReadyH.cons rfl (fun K hK => ?_) AllReadyH.nil)
    go_simp
    (refine (HA.out _).mono ?_; rintro e w4 ⟨rfl, hb4⟩; have hL3 := bthen hHeld hb4)
    refine hK.out _ _ (by first | exact hL3 | exact hL2 | exact hL1 | exact hL0) (fun hHeld => ?_)
    clear hK K
    try dsimp only
    (refine wpAnyH_take (i := 7) (v := ?_) rfl (by kernel_rfl) (by kernel_rfl) (by kernel_rfl) (fun _ _ _ h => h) (Or.inl ⟨by rfl, ?_⟩) hHeld ?_; rotate_left; (intro w hSw; (have s0 := (hV.later hSw).cell 0; have s1 := (hV.later hSw).cell 1; clear hSw); (go_simp <;> with_reducible rfl)); simp only [List.getElem_toArray, List.getElem_cons_zero, List.getElem_cons_succ, Act.put, List.setIfInBounds_toArray, List.set_cons_zero, List.set_cons_succ])
    (refine wpAnyH_take (i := 8) (v := ?_) rfl (by kernel_rfl) (by kernel_rfl) (by kernel_rfl) (fun _ _ _ h => h) (Or.inl ⟨by rfl, ?_⟩) hHeld ?_; rotate_left; (intro w hSw; (have s0 := (hV.later hSw).cell 0; have s1 := (hV.later hSw).cell 1; clear hSw); (go_simp <;> with_reducible rfl)); simp only [List.getElem_toArray, List.getElem_cons_zero, List.getElem_cons_succ, Act.put, List.setIfInBounds_toArray, List.set_cons_zero, List.set_cons_succ])
    refine wpAnyH_done (by kernel_rfl) ?_ _
    refine NoPanic.normal ?_
    go_wp2_with fail
    go_meet
    case rel => exact ⟨rfl, rfl, hV.later hHeld, bthen hL hHeld⟩
  case rest =>
    obtain ⟨rfl, rfl, HV, HB⟩ := hcut
    clear HM HG HA hV hL
    have hgI : (g : Int) ≤ 2 := by omega
    go_wp2_with fail
    go_loopw [9, 10] (fun o q wr => ∃ j n : Nat, ∃ (u : Option Addr) (cap : Nat), j ≤ 2 * g + 1 ∧ o = .slice u n cap ∧ q = .int .i64 (M - (g : Int) + (j : Int)) ∧ Hid (n = (ceI s v k t (3 - g + j)).length) ∧ Hid (OwI (w.heap.size + 1) wr (.slice u n cap) (ceI s v k t (3 - g + j))) ∧ Hid (Blk wr w.heap.size #[.iface T (.agg #[]), .bool t] 41) ∧ Hid (Below w.heap.size w wr)) (fun _ q _ => (M + (g : Int) + 1 - intOf q).toNat)
    case atStart => exact ⟨0, 0, none, 0, by omega, rfl, by go_num, by show _ = _; rw [show 3 - g + 0 = 3 - g from rfl, H0.out]; rfl, by show OwI _ _ _ _; rw [show 3 - g + 0 = 3 - g from rfl, H0.out]; exact owi_nil _ _, HV, HB⟩
    case round =>
      obtain ⟨j, n, u, cap, hj, rfl, rfl, hn, hO, hVr, hBr⟩ := hrel
      clear HV HB
      by_cases hlt : j < 2 * g + 1
      · obtain ⟨q, hq⟩ : ∃ q, M - (g : Int) + (j : Int) = q := ⟨_, rfl⟩
        have hq2 : ceQ v k (3 - g + j) = q := by rw [HQ.out, ← hq]; omega
        have hqM : q ≤ M + (g : Int) := by omega
        have hq4 : M - (g : Int) + ((j + 1 : Nat) : Int) = q + 1 := by omega
        have hqb : -100000 ≤ q ∧ q ≤ 100000 := by omega
        have hY := HY.out (3 - g + j)
        have hN := HNo.out (3 - g + j)
        have hP := HP.out q
        have hll := HL.out (3 - g + j)
        rw [hq2] at hY hN
        rw [show 3 - g + j + 1 = 3 - g + (j + 1) by omega] at hY hN
        have HNq := hid (fun W => HN.out q W (by omega))
        have HXq := hid (fun W => HX.out q W)
        have HTq := hid (fun W => HT.out (paF q k t) (paG q k t) s W)
        rw [hq]
        clear HN HX HT HQ HY HNo HP HL H0 HE hq hq2
        generalize (if s = 0 then paF q k t else paG q k t) = z at *
        generalize paF q k t = f at *
        generalize paG q k t = gg at *
        obtain ⟨c0, c1, _, _⟩ := hVr.out.two
        have hlb := hVr.out.lt
        cases hx : ixB q
        · have HR := hid (hN (by rw [hP, hx]; rfl))
          have hq4' := hid hq4
          rw [hx] at HXq
          clear hN hY hP hx hll hq4 HNq HTq
          go_wp2_with (go_at_call 16; refine (HXq.out _).mono ?_; rintro e w' ⟨rfl, rfl⟩)
          go_roundw
          case rel => exact ⟨j + 1, n, u, cap, by omega, rfl, by rw [hq4'.out], by rw [HR.out]; exact hn, by rw [HR.out]; exact hO, hVr, hBr⟩
          case measure => simp [intOf]; omega
        · rw [hx] at HXq
          by_cases hf : z = v
          · have HR := hid (hY (by rw [hP, hx]; simpa using hf))
            have hb1 : (z == v) = true := by simpa using hf
            have hq4' := hid hq4
            have HLL := hid hll
            clear hN hY hP hx hll hq4 hf
            generalize ceI s v k t (3 - g + j) = ys at *
            go_wp2_with (go_at_call 16; refine (HXq.out _).mono ?_; rintro e w' ⟨rfl, rfl⟩)
            refine (HNq.out _).mono ?_
            rintro e w2 ⟨rfl, hb2⟩
            have HV2 := hid (hVr.out.later hb2)
            have HB2 := hid (bthen hBr.out hb2)
            have HO2 := hid (hO.out.later hb2)
            clear hb2 c0 c1 hlb hVr hBr hO HNq HXq
            go_wp2_with fail
            refine (HTq.out _).mono ?_
            rintro e w3 ⟨rfl, hb3⟩
            have HV3 := hid ((HV2.out.later hb3).alloc (.cells #[.int .i64 q] 2))
            have HB3 := hid (bmore (bthen HB2.out hb3) (.cells #[.int .i64 q] 2))
            have HO3 := hid ((HO2.out.later hb3).alloc (.cells #[.int .i64 q] 2))
            clear hb3 HV2 HB2 HO2 HTq
            go_wp2_with (at_builtin; refine wpList_append_ints _ rfl _ _ rfl (w.heap.size + 1) _ ys rfl HO3.out _ [q] rfl (sl_lit _ _ _ _ _ _ rfl rfl) (by simp) ?c1 ?c2 ?_)
            case c1 => have := HLL.out; simp only [List.length_singleton]; omega
            case c2 => have := HV3.out.lt; omega
            intro g5 cap5 n5 w5 hn5 ho5 hg5 _
            have HB5 := hid (HB3.out.trans (below_of_grown hg5 (by have := HB3.out.size; omega) (fun j e => by have := (HO3.out.block j e).1; omega)))
            have HV5 := hid (HV3.out.kept hg5 (fun e => by have := (HO3.out.block _ e).1; omega))
            have HO5 := hid ho5
            have HN5 : Hid (n5 = (ys ++ [q]).length) := by show _ = _; simpa using hn5
            clear hn5 ho5 hg5 HO3 HV3 HB3
            go_wp2
            go_roundw
            case rel => exact ⟨j + 1, n5, _, cap5, by omega, rfl, by rw [hq4'.out], by rw [HR.out]; exact HN5.out, by rw [HR.out]; exact HO5.out, HV5, HB5⟩
            case measure => simp [intOf]; omega
          · have HR := hid (hN (by rw [hP, hx]; simpa using hf))
            have hb1 : (z == v) = false := by simpa using hf
            have hq4' := hid hq4
            clear hN hY hP hx hll hq4 hf
            go_wp2_with (go_at_call 16; refine (HXq.out _).mono ?_; rintro e w' ⟨rfl, rfl⟩)
            refine (HNq.out _).mono ?_
            rintro e w2 ⟨rfl, hb2⟩
            have HV2 := hid (hVr.out.later hb2)
            have HB2 := hid (bthen hBr.out hb2)
            have HO2 := hid (hO.out.later hb2)
            clear hb2 c0 c1 hlb hVr hBr hO HNq HXq
            go_wp2_with fail
            refine (HTq.out _).mono ?_
            rintro e w3 ⟨rfl, hb3⟩
            have HV3 := hid (HV2.out.later hb3)
            have HB3 := hid (bthen HB2.out hb3)
            have HO3 := hid (HO2.out.later hb3)
            clear hb3 HV2 HB2 HO2 HTq
            go_wp2
            go_roundw
            case rel => exact ⟨j + 1, n, u, cap, by omega, rfl, by rw [hq4'.out], by rw [HR.out]; exact hn, by rw [HR.out]; exact HO3.out, HV3, HB3⟩
            case measure => simp [intOf]; omega
      · obtain rfl : j = 2 * g + 1 := by omega
        have HF : Hid (ceL s v k t = ceI s v k t (3 - g + (2 * g + 1))) := by show _ = _; rw [HE.out]; congr 1; omega
        clear HN HX HT HQ HY HNo HP HL H0 HE
        have hgt : ¬ M - (g : Int) + ((2 * g + 1 : Nat) : Int) ≤ M + (g : Int) := by omega
        have HOe : Hid (OwI (w.heap.size + 1) wr (.slice u n cap) (ceL s v k t)) := by show OwI _ _ _ _; rw [HF.out]; exact hO.out
        clear HF hO hn
        generalize M - (g : Int) + ((2 * g + 1 : Nat) : Int) = q at *
        go_wp2
        go_ret
        exact ⟨_, rfl, HOe.out.mono (Nat.le_succ _), hBr.out⟩

/-- The faces. -/
theorem si_bad {q k : Int} {t : Bool} (h : siO q k = false) : 3 = siC q k ∧ 0 = siA q k t ∧ 0 = siB q k t :=
  ⟨(if_neg (by rw [h]; decide)).symm, (if_neg (by rw [h]; decide)).symm, (if_neg (by rw [h]; decide)).symm⟩
set_option maxHeartbeats 2000000 in
theorem implSplitIndex_calls (q k : Int) (t : Bool) (w : World) : Calls Try.prog 10 #[.int .i64 q, .int .i64 k, .bool t] w fun e w' => e = .returned (.agg #[.int .i64 (siC q k), .int .i64 (siA q k t), .int .i64 (siB q k t)]) ∧ Below w.heap.size w w' := by
  have HX := hid (isIndex_calls q)
  cases hk : spB k
  · have H := hid (si_bad (q := q) (k := k) (t := t) (by unfold siO; rw [hk]; rfl))
    have HD := hid (fun W => dealOf_no k t W hk)
    clear hk HX
    go_enter Try.func10, Try.ntmps10
    go_wp2_with fail
    refine (HD.out _).mono ?_
    rintro e w1 ⟨rfl, hb1⟩
    have HB := (Blk.new w #[.int .i64 0, .int .i64 0, .int .i64 0] 34).later hb1
    have HL := hid (bthen (bmore (Below.refl _ w) _) hb1)
    obtain ⟨c0, c1, c2, f0, f1, f2⟩ := HB.three
    have hlt := HB.lt
    clear hb1 HB HD
    go_wp2
    exact bodyPost_ret (v := .agg #[.int .i64 3, .int .i64 0, .int .i64 0]) (by simp [results, Try.results10, go_sem, c0, c1, c2, hlt]) rfl ⟨ret_three H.out.1 H.out.2.1 H.out.2.2, bmore (below_cell (below_cell (below_cell HL.out (Nat.le_refl _) _ _) (Nat.le_refl _) _ _) (Nat.le_refl _) _ _) _⟩
  · obtain ⟨T, hT⟩ := sp_some hk
    have HD := hid (fun W => dealOf_yes T k t W hT)
    cases hx : ixB q
    · have H := hid (si_bad (q := q) (k := k) (t := t) (by unfold siO; rw [hx]; simp))
      rw [hx] at HX
      clear hk hx hT
      go_enter Try.func10, Try.ntmps10
      go_wp2_with fail
      refine (HD.out _).mono ?_
      rintro e w1 ⟨rfl, hb1⟩
      have HB := (Blk.new w #[.int .i64 0, .int .i64 0, .int .i64 0] 34).later hb1
      have HL := hid (bthen (bmore (Below.refl _ w) _) hb1)
      obtain ⟨c0, c1, c2, f0, f1, f2⟩ := HB.three
      have hlt := HB.lt
      clear hb1 HB HD
      go_wp2_with (go_at_call 16; refine (HX.out _).mono ?_; rintro e w' ⟨rfl, rfl⟩)
      exact bodyPost_ret (v := .agg #[.int .i64 3, .int .i64 0, .int .i64 0]) (by simp [results, Try.results10, go_sem, c0, c1, c2, hlt]) rfl ⟨ret_three H.out.1 H.out.2.1 H.out.2.2, bmore (below_cell (below_cell (below_cell HL.out (Nat.le_refl _) _ _) (Nat.le_refl _) _ _) (Nat.le_refl _) _ _) _⟩
    · have ho : siO q k = true := by unfold siO; rw [hk, hx]; rfl
      have hqb := of_inB hx
      have H : Hid (0 = siC q k ∧ paF q k t = siA q k t ∧ paG q k t = siB q k t) := ⟨(if_pos ho).symm, (if_pos ho).symm, (if_pos ho).symm⟩
      have HN := hid (fun W => numbersOf_calls T k q t W hT (by omega))
      have HR := hid result_calls
      rw [hx] at HX
      clear hk hx hT ho
      generalize paF q k t = f at *
      generalize paG q k t = g at *
      go_enter Try.func10, Try.ntmps10
      go_wp2_with fail
      refine (HD.out _).mono ?_
      rintro e w1 ⟨rfl, hb1⟩
      have HB := hid (((Blk.new w #[.int .i64 0, .int .i64 0, .int .i64 0] 34).later hb1).alloc (.cells #[.iface T (.agg #[]), .bool t] 41))
      have HL := hid (bmore (bthen (bmore (Below.refl _ w) (.cells #[.int .i64 0, .int .i64 0, .int .i64 0] 34)) hb1) (.cells #[.iface T (.agg #[]), .bool t] 41))
      clear hb1 HD
      go_wp2_with (go_at_call 16; refine (HX.out _).mono ?_; rintro e w' ⟨rfl, rfl⟩)
      refine (HN.out _).mono ?_
      rintro e w2 ⟨rfl, hb2⟩
      have HB2 := hid (HB.out.later hb2)
      have HL2 := hid (bthen HL.out hb2)
      clear hb2 HB HL
      go_wp2_with fail
      refine (HR.out _ _ _).mono ?_
      rintro e w3 ⟨rfl, hb3⟩
      have HB3 := HB2.out.later hb3
      have HL3 := hid (bthen HL2.out hb3)
      obtain ⟨c0, c1, c2, f0, f1, f2⟩ := HB3.three
      clear hb3 HB2 HL2 HB3
      go_wp2
      exact bodyPost_ret (v := .agg #[.int .i64 0, .int .i64 f, .int .i64 g]) (by simp [results, Try.results10, go_sem, c0, c1, c2]) rfl ⟨ret_three H.out.1 H.out.2.1 H.out.2.2, below_cell (below_cell (below_cell HL3.out (Nat.le_refl _) _ _) (Nat.le_refl _) _ _) (Nat.le_refl _) _ _⟩
theorem xi_bad {s v k : Int} (h : xiO s v k = false) : 3 = xiC s v k ∧ 0 = xiV s v k := ⟨(if_neg (by rw [h]; decide)).symm, (if_neg (by rw [h]; decide)).symm⟩
theorem xi_good {s v k : Int} (h : xiO s v k = true) : 0 = xiC s v k ∧ (k + 1) * v = xiV s v k := ⟨(if_pos h).symm, (if_pos h).symm⟩
theorem so_bad {s k : Int} {t : Bool} (h : sdO s k = false) : 3 = soC s k ∧ 0 = soV s k t := ⟨(if_neg (by rw [h]; decide)).symm, (if_neg (by rw [h]; decide)).symm⟩
theorem so_good {s k : Int} {t : Bool} (h : sdO s k = true) : 0 = soC s k ∧ ofV s k t = soV s k t := ⟨(if_pos h).symm, (if_pos h).symm⟩
theorem cl_bad {s v k : Int} {t : Bool} (h : xiO s v k = false) : 3 = xiC s v k ∧ [] = clL s v k t := ⟨(if_neg (by rw [h]; decide)).symm, (if_neg (by rw [h]; decide)).symm⟩
theorem cl_good {s v k : Int} {t : Bool} (h : xiO s v k = true) : 0 = xiC s v k ∧ ceL s v k t = clL s v k t := ⟨(if_pos h).symm, (if_pos h).symm⟩
theorem xo_deal {s v k : Int} (h : spB k = false) : xiO s v k = false := by unfold xiO sdO; rw [h]; simp
theorem xo_side {s v k : Int} (h : inB 0 1 s = false) : xiO s v k = false := by unfold xiO sdO; rw [h]; simp
theorem xo_num {s v k : Int} (h : ixB v = false) : xiO s v k = false := by unfold xiO; rw [h]; simp
theorem xo_all {s v k : Int} (h1 : spB k = true) (h2 : inB 0 1 s = true) (h3 : ixB v = true) : xiO s v k = true := by unfold xiO sdO; rw [h1, h2, h3]; rfl
theorem so_deal {s k : Int} (h : spB k = false) : sdO s k = false := by unfold sdO; rw [h]; simp
theorem so_side {s k : Int} (h : inB 0 1 s = false) : sdO s k = false := by unfold sdO; rw [h]; simp
theorem so_all {s k : Int} (h1 : spB k = true) (h2 : inB 0 1 s = true) : sdO s k = true := by unfold sdO; rw [h1, h2]; rfl
set_option maxHeartbeats 2000000 in
theorem implSideIndex_calls (s v k : Int) (t : Bool) (w : World) : Calls Try.prog 12 #[.int .i64 s, .int .i64 v, .int .i64 k, .bool t] w fun e w' => e = .returned (.agg #[.int .i64 (xiC s v k), .int .i64 (xiV s v k)]) ∧ Below w.heap.size w w' := by
  have HX := hid (isIndex_calls v)
  have HS := hid (isSide_calls s)
  cases hk : spB k
  · have H := hid (xi_bad (xo_deal (s := s) (v := v) hk))
    have HD := hid (fun W => dealOf_no k t W hk)
    clear hk HX HS
    go_enter Try.func12, Try.ntmps12
    go_wp2_with fail
    refine (HD.out _).mono ?_
    rintro e w1 ⟨rfl, hb1⟩
    have HB := (Blk.new w #[.int .i64 0, .int .i64 0] 31).later hb1
    have HL := hid (bthen (bmore (Below.refl _ w) _) hb1)
    obtain ⟨c0, c1, f0, f1⟩ := HB.two
    have hlt := HB.lt
    clear hb1 HB HD
    go_wp2
    exact bodyPost_ret (v := .agg #[.int .i64 3, .int .i64 0]) (by simp [results, Try.results12, go_sem, c0, c1, hlt]) rfl ⟨ret_two H.out.1 H.out.2, bmore (below_cell (below_cell HL.out (Nat.le_refl _) _ _) (Nat.le_refl _) _ _) _⟩
  · obtain ⟨T, hT⟩ := sp_some hk
    have HD := hid (fun W => dealOf_yes T k t W hT)
    cases hs : inB 0 1 s
    · have H := hid (xi_bad (xo_side (v := v) (k := k) hs))
      rw [hs] at HS
      clear hk hs hT HX
      go_enter Try.func12, Try.ntmps12
      go_wp2_with fail
      refine (HD.out _).mono ?_
      rintro e w1 ⟨rfl, hb1⟩
      have HB := (Blk.new w #[.int .i64 0, .int .i64 0] 31).later hb1
      have HL := hid (bthen (bmore (Below.refl _ w) _) hb1)
      obtain ⟨c0, c1, f0, f1⟩ := HB.two
      have hlt := HB.lt
      clear hb1 HB HD
      go_wp2_with ((go_at_call 15; refine (HS.out _).mono ?_; rintro e w' ⟨rfl, rfl⟩))
      exact bodyPost_ret (v := .agg #[.int .i64 3, .int .i64 0]) (by simp [results, Try.results12, go_sem, c0, c1, hlt]) rfl ⟨ret_two H.out.1 H.out.2, bmore (below_cell (below_cell HL.out (Nat.le_refl _) _ _) (Nat.le_refl _) _ _) _⟩
    · rw [hs] at HS
      cases hx : ixB v
      · have H := hid (xi_bad (xo_num (s := s) (k := k) hx))
        rw [hx] at HX
        clear hk hs hT hx
        go_enter Try.func12, Try.ntmps12
        go_wp2_with fail
        refine (HD.out _).mono ?_
        rintro e w1 ⟨rfl, hb1⟩
        have HB := (Blk.new w #[.int .i64 0, .int .i64 0] 31).later hb1
        have HL := hid (bthen (bmore (Below.refl _ w) _) hb1)
        obtain ⟨c0, c1, f0, f1⟩ := HB.two
        have hlt := HB.lt
        clear hb1 HB HD
        go_wp2_with (first | (go_at_call 15; refine (HS.out _).mono ?_; rintro e w' ⟨rfl, rfl⟩) | (go_at_call 16; refine (HX.out _).mono ?_; rintro e w' ⟨rfl, rfl⟩))
        exact bodyPost_ret (v := .agg #[.int .i64 3, .int .i64 0]) (by simp [results, Try.results12, go_sem, c0, c1, hlt]) rfl ⟨ret_two H.out.1 H.out.2, bmore (below_cell (below_cell HL.out (Nat.le_refl _) _ _) (Nat.le_refl _) _ _) _⟩
      · have H := hid (xi_good (xo_all hk hs hx))
        have hvb := of_inB hx
        have HM := hid (fun W => middle_calls T k v t W hT (by omega))
        rw [hx] at HX
        clear hk hs hT hx
        generalize (k + 1) * v = m at *
        go_enter Try.func12, Try.ntmps12
        go_wp2_with fail
        refine (HD.out _).mono ?_
        rintro e w1 ⟨rfl, hb1⟩
        have HB := hid (((Blk.new w #[.int .i64 0, .int .i64 0] 31).later hb1).alloc (.cells #[.iface T (.agg #[]), .bool t] 41))
        have HL := hid (bmore (bthen (bmore (Below.refl _ w) (.cells #[.int .i64 0, .int .i64 0] 31)) hb1) (.cells #[.iface T (.agg #[]), .bool t] 41))
        clear hb1 HD
        go_wp2_with (first | (go_at_call 15; refine (HS.out _).mono ?_; rintro e w' ⟨rfl, rfl⟩) | (go_at_call 16; refine (HX.out _).mono ?_; rintro e w' ⟨rfl, rfl⟩))
        refine (HM.out _).mono ?_
        rintro e w2 ⟨rfl, hb2⟩
        have HB2 := HB.out.later hb2
        have HL2 := hid (bthen HL.out hb2)
        obtain ⟨c0, c1, f0, f1⟩ := HB2.two
        clear hb2 HB HL HB2
        go_wp2
        exact bodyPost_ret (v := .agg #[.int .i64 0, .int .i64 m]) (by simp [results, Try.results12, go_sem, c0, c1]) rfl ⟨ret_two H.out.1 H.out.2, below_cell (below_cell HL2.out (Nat.le_refl _) _ _) (Nat.le_refl _) _ _⟩
set_option maxHeartbeats 2000000 in
theorem implSpreadOf_calls (s k : Int) (t : Bool) (w : World) : Calls Try.prog 8 #[.int .i64 s, .int .i64 k, .bool t] w fun e w' => e = .returned (.agg #[.int .i64 (soC s k), .int .i64 (soV s k t)]) ∧ Below w.heap.size w w' := by
  have HS := hid (isSide_calls s)
  cases hk : spB k
  · have H := hid (so_bad (t := t) (so_deal (s := s) hk))
    have HD := hid (fun W => dealOf_no k t W hk)
    clear hk HS
    go_enter Try.func8, Try.ntmps8
    go_wp2_with fail
    refine (HD.out _).mono ?_
    rintro e w1 ⟨rfl, hb1⟩
    have HB := (Blk.new w #[.int .i64 0, .int .i64 0] 31).later hb1
    have HL := hid (bthen (bmore (Below.refl _ w) _) hb1)
    obtain ⟨c0, c1, f0, f1⟩ := HB.two
    have hlt := HB.lt
    clear hb1 HB HD
    go_wp2
    exact bodyPost_ret (v := .agg #[.int .i64 3, .int .i64 0]) (by simp [results, Try.results8, go_sem, c0, c1, hlt]) rfl ⟨ret_two H.out.1 H.out.2, bmore (below_cell (below_cell HL.out (Nat.le_refl _) _ _) (Nat.le_refl _) _ _) _⟩
  · obtain ⟨T, hT⟩ := sp_some hk
    have HD := hid (fun W => dealOf_yes T k t W hT)
    cases hs : inB 0 1 s
    · have H := hid (so_bad (t := t) (so_side (k := k) hs))
      rw [hs] at HS
      clear hk hs hT
      go_enter Try.func8, Try.ntmps8
      go_wp2_with fail
      refine (HD.out _).mono ?_
      rintro e w1 ⟨rfl, hb1⟩
      have HB := (Blk.new w #[.int .i64 0, .int .i64 0] 31).later hb1
      have HL := hid (bthen (bmore (Below.refl _ w) _) hb1)
      obtain ⟨c0, c1, f0, f1⟩ := HB.two
      have hlt := HB.lt
      clear hb1 HB HD
      go_wp2_with ((go_at_call 15; refine (HS.out _).mono ?_; rintro e w' ⟨rfl, rfl⟩))
      exact bodyPost_ret (v := .agg #[.int .i64 3, .int .i64 0]) (by simp [results, Try.results8, go_sem, c0, c1, hlt]) rfl ⟨ret_two H.out.1 H.out.2, bmore (below_cell (below_cell HL.out (Nat.le_refl _) _ _) (Nat.le_refl _) _ _) _⟩
    · have H := hid (so_good (t := t) (so_all hk hs))
      have HG := hid (fun W => gaps_calls T k t W hT)
      have HA := hid (fun W => at_calls (ofV 0 k t) (ofV 1 k t) s W)
      rw [← of_is hs] at HA
      rw [hs] at HS
      clear hk hs hT
      generalize ofV s k t = z at *
      generalize ofV 0 k t = o0 at *
      generalize ofV 1 k t = o1 at *
      go_enter Try.func8, Try.ntmps8
      go_wp2_with fail
      refine (HD.out _).mono ?_
      rintro e w1 ⟨rfl, hb1⟩
      have HB := hid (((Blk.new w #[.int .i64 0, .int .i64 0] 31).later hb1).alloc (.cells #[.iface T (.agg #[]), .bool t] 41))
      have HL := hid (bmore (bthen (bmore (Below.refl _ w) (.cells #[.int .i64 0, .int .i64 0] 31)) hb1) (.cells #[.iface T (.agg #[]), .bool t] 41))
      clear hb1 HD
      go_wp2_with ((go_at_call 15; refine (HS.out _).mono ?_; rintro e w' ⟨rfl, rfl⟩))
      refine (HG.out _).mono ?_
      rintro e w2 ⟨rfl, hb2⟩
      have HB2 := hid (HB.out.later hb2)
      have HL2 := hid (bthen HL.out hb2)
      clear hb2 HB HL
      go_wp2_with fail
      refine (HA.out _).mono ?_
      rintro e w3 ⟨rfl, hb3⟩
      have HB3 := HB2.out.later hb3
      have HL3 := hid (bthen HL2.out hb3)
      obtain ⟨c0, c1, f0, f1⟩ := HB3.two
      clear hb3 HB2 HL2 HB3
      go_wp2
      exact bodyPost_ret (v := .agg #[.int .i64 0, .int .i64 z]) (by simp [results, Try.results8, go_sem, c0, c1]) rfl ⟨ret_two H.out.1 H.out.2, below_cell (below_cell HL3.out (Nat.le_refl _) _ _) (Nat.le_refl _) _ _⟩
set_option maxHeartbeats 2000000 in
theorem implCellOf_calls (s v k : Int) (t : Bool) (w : World) : Calls Try.prog 6 #[.int .i64 s, .int .i64 v, .int .i64 k, .bool t] w fun e w' => ∃ u, e = .returned (.agg #[.int .i64 (xiC s v k), u]) ∧ OwI w.heap.size w' u (clL s v k t) ∧ Below w.heap.size w w' := by
  have HX := hid (isIndex_calls v)
  have HS := hid (isSide_calls s)
  cases hk : spB k
  · have H := hid (cl_bad (t := t) (xo_deal (s := s) (v := v) hk))
    have HD := hid (fun W => dealOf_no k t W hk)
    clear hk HX HS
    go_enter Try.func6, Try.ntmps6
    go_wp2_with fail
    refine (HD.out _).mono ?_
    rintro e w1 ⟨rfl, hb1⟩
    have HB := (Blk.new w #[.int .i64 0, .slice none 0 0] 28).later hb1
    have HL := hid (bthen (bmore (Below.refl _ w) _) hb1)
    obtain ⟨c0, c1, f0, f1⟩ := HB.two
    have hlt := HB.lt
    clear hb1 HB HD
    go_wp2
    exact bodyPost_ret (v := .agg #[.int .i64 3, .slice none 0 0]) (by simp [results, Try.results6, go_sem, c0, c1, hlt]) rfl ⟨_, by rw [← H.out.1], by rw [← H.out.2]; exact owi_nil _ _, bmore (below_cell (below_cell HL.out (Nat.le_refl _) _ _) (Nat.le_refl _) _ _) _⟩
  · obtain ⟨T, hT⟩ := sp_some hk
    have HD := hid (fun W => dealOf_yes T k t W hT)
    cases hs : inB 0 1 s
    · have H := hid (cl_bad (t := t) (xo_side (v := v) (k := k) hs))
      rw [hs] at HS
      clear hk hs hT HX
      go_enter Try.func6, Try.ntmps6
      go_wp2_with fail
      refine (HD.out _).mono ?_
      rintro e w1 ⟨rfl, hb1⟩
      have HB := (Blk.new w #[.int .i64 0, .slice none 0 0] 28).later hb1
      have HL := hid (bthen (bmore (Below.refl _ w) _) hb1)
      obtain ⟨c0, c1, f0, f1⟩ := HB.two
      have hlt := HB.lt
      clear hb1 HB HD
      go_wp2_with ((go_at_call 15; refine (HS.out _).mono ?_; rintro e w' ⟨rfl, rfl⟩))
      exact bodyPost_ret (v := .agg #[.int .i64 3, .slice none 0 0]) (by simp [results, Try.results6, go_sem, c0, c1, hlt]) rfl ⟨_, by rw [← H.out.1], by rw [← H.out.2]; exact owi_nil _ _, bmore (below_cell (below_cell HL.out (Nat.le_refl _) _ _) (Nat.le_refl _) _ _) _⟩
    · cases hx : ixB v
      · have H := hid (cl_bad (t := t) (xo_num (s := s) (k := k) hx))
        rw [hx] at HX
        rw [hs] at HS
        clear hk hs hT hx
        go_enter Try.func6, Try.ntmps6
        go_wp2_with fail
        refine (HD.out _).mono ?_
        rintro e w1 ⟨rfl, hb1⟩
        have HB := (Blk.new w #[.int .i64 0, .slice none 0 0] 28).later hb1
        have HL := hid (bthen (bmore (Below.refl _ w) _) hb1)
        obtain ⟨c0, c1, f0, f1⟩ := HB.two
        have hlt := HB.lt
        clear hb1 HB HD
        go_wp2_with (first | (go_at_call 15; refine (HS.out _).mono ?_; rintro e w' ⟨rfl, rfl⟩) | (go_at_call 16; refine (HX.out _).mono ?_; rintro e w' ⟨rfl, rfl⟩))
        exact bodyPost_ret (v := .agg #[.int .i64 3, .slice none 0 0]) (by simp [results, Try.results6, go_sem, c0, c1, hlt]) rfl ⟨_, by rw [← H.out.1], by rw [← H.out.2]; exact owi_nil _ _, bmore (below_cell (below_cell HL.out (Nat.le_refl _) _ _) (Nat.le_refl _) _ _) _⟩
      · have H := hid (cl_good (t := t) (xo_all hk hs hx))
        have hvb := of_inB hx
        have HC := hid (fun W => cell_calls T s v k t W hT hs (by omega))
        rw [hs] at HS
        rw [hx] at HX
        clear hk hs hT hx
        go_enter Try.func6, Try.ntmps6
        go_wp2_with fail
        refine (HD.out _).mono ?_
        rintro e w1 ⟨rfl, hb1⟩
        have HB := hid (((Blk.new w #[.int .i64 0, .slice none 0 0] 28).later hb1).alloc (.cells #[.iface T (.agg #[]), .bool t] 41))
        have HL := hid (bmore (bthen (bmore (Below.refl _ w) (.cells #[.int .i64 0, .slice none 0 0] 28)) hb1) (.cells #[.iface T (.agg #[]), .bool t] 41))
        clear hb1 HD
        go_wp2_with (first | (go_at_call 15; refine (HS.out _).mono ?_; rintro e w' ⟨rfl, rfl⟩) | (go_at_call 16; refine (HX.out _).mono ?_; rintro e w' ⟨rfl, rfl⟩))
        refine (HC.out _).mono ?_
        rintro e w2 ⟨u, rfl, ho2, hb2⟩
        have HB2 := HB.out.later hb2
        have HL2 := hid (bthen HL.out hb2)
        have HO2 := hid (ho2.mono (base' := w.heap.size + 1) HB.out.lt)
        obtain ⟨au, cu, hu, _⟩ := ho2.sl
        subst hu
        obtain ⟨c0, c1, f0, f1⟩ := HB2.two
        clear hb2 HB HL HB2 HC ho2
        go_wp2
        refine bodyPost_ret (v := .agg #[.int .i64 0, .slice au (ceL s v k t).length cu]) (by simp [results, Try.results6, go_sem, c0, c1]) rfl ⟨_, by rw [← H.out.1], ?_, below_cell (below_cell HL2.out (Nat.le_refl _) _ _) (Nat.le_refl _) _ _⟩
        rw [← H.out.2]
        exact Ow.set2 HO2.out _ _
theorem find_at {L : List Int} {P : Int → Bool} {i : Nat} (hi : i < L.length) (hno : ∀ j, j < i → P (L.getD j 0) = false) (h : P (L.getD i 0) = true) : L.find? P = some (L.getD i 0) := by
  induction L generalizing i with
  | nil => simp at hi
  | cons x l ih =>
    cases i with
    | zero =>
      have hx : P x = true := h
      rw [List.find?_cons, hx]; rfl
    | succ n =>
      have hx : P x = false := hno 0 (by omega)
      rw [List.find?_cons, hx]
      exact ih (i := n) (by simpa using hi) (fun j hj => hno (j + 1) (by omega)) h
theorem jo_hit {a b k : Int} {t : Bool} (ho : joO a b k = true) (i : Nat) (hi : i < (ceL 0 a k t).length) (hno : ∀ j, j < i → ¬ paG ((ceL 0 a k t).getD j 0) k t = b) (hy : paG ((ceL 0 a k t).getD i 0) k t = b) :
    0 = joC a b k t ∧ (ceL 0 a k t).getD i 0 = joV a b k t := by
  have hf : joF a b k t = some ((ceL 0 a k t).getD i 0) := find_at hi (fun j hj => by simpa using hno j hj) (by simpa using hy)
  have hc : joC a b k t = 0 := by unfold joC; rw [if_pos ho, if_pos (by unfold joD; rw [hf]; rfl)]
  exact ⟨hc.symm, by unfold joV; rw [if_pos hc, hf]; rfl⟩
theorem jo_miss {a b k : Int} {t : Bool} (ho : joO a b k = true) (hno : ∀ j, j < (ceL 0 a k t).length → ¬ paG ((ceL 0 a k t).getD j 0) k t = b) : 4 = joC a b k t ∧ 0 = joV a b k t := by
  have hf : joF a b k t = none := by
    unfold joF
    rw [List.find?_eq_none]
    intro x hx
    obtain ⟨i, hi, rfl⟩ := List.getElem_of_mem hx
    have := hno i hi
    rw [List.getD_eq_getElem?_getD, List.getElem?_eq_getElem hi, Option.getD_some] at this
    simpa using this
  have hc : joC a b k t = 4 := by unfold joC; rw [if_pos ho, if_neg (by unfold joD; rw [hf]; decide)]
  exact ⟨hc.symm, by unfold joV; rw [if_neg (by rw [hc]; decide)]⟩
theorem jo_bad {a b k : Int} {t : Bool} (ho : joO a b k = false) : 3 = joC a b k t ∧ 0 = joV a b k t := by
  have hc : joC a b k t = 3 := by unfold joC; rw [if_neg (by rw [ho]; decide)]
  exact ⟨hc.symm, by unfold joV; rw [if_neg (by rw [hc]; decide)]⟩
theorem jo_mem {a k : Int} {t : Bool} (hk : spB k = true) (i : Nat) (hi : i < (ceL 0 a k t).length) : paF ((ceL 0 a k t).getD i 0) k t = a ∧ -30000 ≤ (ceL 0 a k t).getD i 0 ∧ (ceL 0 a k t).getD i 0 ≤ 30000 := by
  have hm : (ceL 0 a k t).getD i 0 ∈ ceL 0 a k t := by
    rw [List.getD_eq_getElem?_getD, List.getElem?_eq_getElem hi, Option.getD_some]
    exact List.getElem_mem hi
  have h := (ce_mem hk).1 hm
  rw [ceP_zero] at h
  simp at h
  exact ⟨h.2, of_inB h.1⟩
end Go.Proofs.Ytlbklghegonfeaa.PaiI
