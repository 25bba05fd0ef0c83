/- The program's shapes of pulses: faults of pulses, what tells a shape, shapes, how near they come. Condition: lists of at most 1048576 numbers. -/
import Derived.Test.YtbbejjlgfekipaaShaF
import Derived.Test.YtbbejjlgfekipaaShaS
import Derived.Test.YtbbejjlgfekipaaNorm
namespace Go.Proofs.Ytbbejjlgfekipaa.ShaP
open Go.ChangeShapes Go.WideShapes Go.ChangeAt Go.RowKit Go.Proofs.Ytbbejjlgfekipaa.Num Go.Proofs.Ytbbejjlgfekipaa.Sli Go.Proofs.Ytbbejjlgfekipaa.App Go.Proofs.Ytbbejjlgfekipaa.Blk Go.Proofs.Ytbbejjlgfekipaa.Div Go.Proofs.Ytbbejjlgfekipaa.Norm Go.Proofs.Ytbbejjlgfekipaa.HalM Go.Proofs.Ytbbejjlgfekipaa.PulM Go.Proofs.Ytbbejjlgfekipaa.ShaM Go.Proofs.Ytbbejjlgfekipaa.IntL Go.Proofs.Ytbbejjlgfekipaa.IntA Go.Proofs.Ytbbejjlgfekipaa.BkI Go.Proofs.Ytbbejjlgfekipaa.ShaF Go.Proofs.Ytbbejjlgfekipaa.ShaS

theorem nm_rgt {xs : List Int} {k : Int} (hl : ¬ 64 < xs.length) (hk : 0 ≤ k ∧ k ≤ 8) : (nmC xs == 0 && nmV xs == k) = rgt xs k := by
  by_cases ha : xs.all topB = true
  · obtain ⟨e1, e2⟩ := nm_yes hl ha
    rw [← e1, ← e2]
    unfold rgt
    by_cases hs : sumAbs xs = k
    · have hn := nmN_sum xs
      have hall : xs.all (inB (-k) k) = true := by
        rw [List.all_eq_true]
        intro x hx
        have := abs_le_nm xs x hx
        exact inB_yes (by omega) (by omega)
      rw [hall, hs]; simp
    · have : (sumAbs xs == k) = false := by simpa using hs
      rw [this, decide_eq_false hs]; simp
  · have hr : rgt xs k = false := by
      cases q : rgt xs k
      · rfl
      · exfalso
        unfold rgt at q
        simp only [Bool.and_eq_true, List.all_eq_true] at q
        refine ha (List.all_eq_true.2 fun x hx => ?_)
        have := of_inB (q.1 x hx)
        exact inB_yes (by omega) (by omega)
    rw [hr]
    have : nmC xs = 3 := by unfold nmC; rw [if_neg hl, if_neg ha]
    rw [this]; rfl
set_option maxHeartbeats 2000000 in
theorem implPulsesFault_calls (v : Value) (xs : List Int) (k : Int) (w : World) (h : Sl .i64 w v xs) (_hf : Fits v) (_hm : xs.length ≤ 1048576) :
    Calls Try.prog 17 #[v, .int .i64 k] w fun e w' => e = .returned (.int .i64 (pfC xs k)) ∧ Below w.heap.size w w' := by
  have HN := hid (implNormOf_calls v xs w h)
  have HW1 := hid (isWithin_calls (xs.length : Int) 1 4)
  have HW2 := hid (isWithin_calls k 0 8)
  obtain ⟨a, cap, hv, _⟩ := h
  subst hv
  cases h1 : inB 1 4 (xs.length : Int)
  · have H : Hid (pfC xs k = 2) := hid (by
      unfold pfC
      rw [if_neg]
      intro hh
      have : inB 1 4 (xs.length : Int) = true := inB_yes (by omega) (by omega)
      rw [h1] at this; cases this)
    rw [h1] at HW1
    clear h1 HN HW2
    go_enter Try.func17, Try.ntmps17
    go_wp2_with fail
    refine (HW1.out _).mono ?_
    rintro e w1 ⟨rfl, rfl⟩
    go_wp2
    go_ret
    exact ⟨by rw [H.out]; rfl, Below.refl _ _⟩
  · have hl := of_inB h1
    rw [h1] at HW1
    cases h2 : inB 0 8 k
    · have H : Hid (pfC xs k = 3) := hid (by
        unfold pfC
        rw [if_pos (by omega), if_neg (by show ¬ inB 0 8 k = true; rw [h2]; decide)])
      rw [h2] at HW2
      clear h1 h2 HN hl
      go_enter Try.func17, Try.ntmps17
      go_wp2_with fail
      refine (HW1.out _).mono ?_
      rintro e w1 ⟨rfl, rfl⟩
      go_wp2_with fail
      refine (HW2.out _).mono ?_
      rintro e w1 ⟨rfl, rfl⟩
      go_wp2
      go_ret
      exact ⟨by rw [H.out]; rfl, Below.refl _ _⟩
    · have hk := of_inB h2
      have hr := nm_rgt (xs := xs) (k := k) (by omega) hk
      have H : Hid (pfC xs k = if rgt xs k = true then 0 else 1) := hid (by
        unfold pfC
        rw [if_pos (by omega), if_pos (show pkB k = true from h2)])
      rw [h2] at HW2
      clear h1 h2 hl hk
      generalize nmC xs = c at *
      generalize nmV xs = s at *
      go_enter Try.func17, Try.ntmps17
      go_wp2_with fail
      refine (HW1.out _).mono ?_
      rintro e w1 ⟨rfl, rfl⟩
      go_wp2_with fail
      refine (HW2.out _).mono ?_
      rintro e w1 ⟨rfl, rfl⟩
      go_wp2_with fail
      refine HN.out.mono ?_
      rintro e w1 ⟨rfl, hb1⟩
      have HB := hid hb1
      clear hb1 HN HW1 HW2
      by_cases hc : c = 0
      · subst hc
        by_cases hs : s = k
        · subst hs
          have hg : rgt xs s = true := by rw [← hr]; simp
          clear hr
          go_wp2
          go_ret
          exact ⟨by rw [H.out, hg]; rfl, HB.out⟩
        · have hg : rgt xs k = false := by rw [← hr]; simp [hs]
          clear hr
          go_wp2
          go_ret
          exact ⟨by rw [H.out, hg]; rfl, HB.out⟩
      · have hg : rgt xs k = false := by rw [← hr]; simp [hc]
        clear hr
        go_wp2
        go_ret
        exact ⟨by rw [H.out, hg]; rfl, HB.out⟩
theorem tellsShape_calls (k : Int) (w : World) : Calls Try.prog 31 #[.int .i64 k] w fun e w' => e = .returned (.bool (pk1 k)) ∧ w' = w := by
  have HI := hid (isWithin_calls k 1 8)
  go_enter Try.func31, Try.ntmps31
  go_wp2_with (go_at_call 30; refine (HI.out _).mono ?_; rintro e w' ⟨rfl, rfl⟩)
  go_ret
  exact ⟨rfl, rfl⟩
set_option maxHeartbeats 1000000 in
theorem implShapeBound_calls (n k g : Int) (w : World) : Calls Try.prog 14 #[.int .i64 n, .int .i64 k, .int .i64 g] w fun e w' => e = .returned (.agg #[.int .i64 (sbC n k g), .int .i64 (sbV n k g)]) ∧ Below w.heap.size w w' := by
  have HA := hid (isGain_calls n)
  have HB := hid (isGain_calls g)
  have HK := hid (tellsShape_calls k)
  cases ho : sbO n k g
  · have H : Hid (3 = sbC n k g ∧ 0 = sbV n k g) := ⟨(if_neg (by rw [ho]; decide)).symm, (if_neg (by rw [ho]; decide)).symm⟩
    unfold sbO at ho
    cases ha : gnB n
    · rw [ha] at HA
      clear ha ho HB HK
      go_enter Try.func14, Try.ntmps14
      go_wp2_with fail
      refine (HA.out _).mono ?_
      rintro e w' ⟨rfl, rfl⟩
      go_wp2
      exact bodyPost_ret (v := .agg #[.int .i64 3, .int .i64 0]) (by simp [results, Try.results14, go_sem]) rfl ⟨ret_two H.out.1 H.out.2, bmore (Below.refl _ _) _⟩
    · rw [ha] at HA
      cases hb : gnB g
      · rw [hb] at HB
        clear ha hb ho HK
        go_enter Try.func14, Try.ntmps14
        go_wp2_with fail
        refine (HA.out _).mono ?_
        rintro e w' ⟨rfl, rfl⟩
        go_wp2_with fail
        refine (HB.out _).mono ?_
        rintro e w' ⟨rfl, rfl⟩
        go_wp2
        exact bodyPost_ret (v := .agg #[.int .i64 3, .int .i64 0]) (by simp [results, Try.results14, go_sem]) rfl ⟨ret_two H.out.1 H.out.2, bmore (Below.refl _ _) _⟩
      · have hk : pk1 k = false := by rw [ha, hb] at ho; simpa using ho
        rw [hb] at HB
        rw [hk] at HK
        clear ha hb ho hk
        go_enter Try.func14, Try.ntmps14
        go_wp2_with fail
        refine (HA.out _).mono ?_
        rintro e w' ⟨rfl, rfl⟩
        go_wp2_with fail
        refine (HB.out _).mono ?_
        rintro e w' ⟨rfl, rfl⟩
        go_wp2_with fail
        refine (HK.out _).mono ?_
        rintro e w' ⟨rfl, rfl⟩
        go_wp2
        exact bodyPost_ret (v := .agg #[.int .i64 3, .int .i64 0]) (by simp [results, Try.results14, go_sem]) rfl ⟨ret_two H.out.1 H.out.2, bmore (Below.refl _ _) _⟩
  · have ho2 := ho
    unfold sbO at ho2
    simp at ho2
    have h1 := of_inB ho2.1
    have h2 := of_inB ho2.2.1
    have h3 := of_inB ho2.2.2
    have hc := ceilV_bd n k h1.1 (by omega)
    have H : Hid (0 = sbC n k g ∧ ceilV n k + g + 1 = sbV n k g) := ⟨(if_pos ho).symm, (if_pos ho).symm⟩
    rw [ho2.1] at HA
    rw [ho2.2.1] at HB
    rw [ho2.2.2] at HK
    have HC := hid (fun W => ceil_calls n k W (by omega) (by omega) (by omega) (by omega))
    clear ho ho2
    generalize ceilV n k = c at *
    go_enter Try.func14, Try.ntmps14
    go_wp2_with fail
    refine (HA.out _).mono ?_
    rintro e w' ⟨rfl, rfl⟩
    go_wp2_with fail
    refine (HB.out _).mono ?_
    rintro e w' ⟨rfl, rfl⟩
    go_wp2_with fail
    refine (HK.out _).mono ?_
    rintro e w' ⟨rfl, rfl⟩
    go_wp2_with fail
    refine (HC.out _).mono ?_
    rintro e w' ⟨rfl, rfl⟩
    go_wp2
    exact bodyPost_ret (v := .agg #[.int .i64 0, .int .i64 (c + g + 1)]) (by simp [results, Try.results14, go_sem]) rfl ⟨ret_two H.out.1 H.out.2, bmore (Below.refl _ _) _⟩
/-- A list that is filled in its block, beside the answer's. -/
structure FG (w : World) (g : Nat) (l : List Int) (W : World) : Prop where
  r : Blk W w.heap.size #[.int .i64 0, .slice none 0 0] 28
  n : w.heap.size < g
  l : Bi W g l
  b : Below w.heap.size w W
theorem FG.set {w W : World} {g : Nat} {l : List Int} (h : FG w g l W) (j : Nat) (x : Int) : FG w g (l.set j x) (W.setCell ⟨g, j, none⟩ (.int .i64 x)) :=
  ⟨h.r.other (by have := h.n; omega) _ _, h.n, h.l.set j x, below_cell h.b (by have := h.n; omega) _ _⟩
theorem FG.new {w W : World} (hr : Blk W w.heap.size #[.int .i64 0, .slice none 0 0] 28) (hb : Below w.heap.size w W) (n : Nat) : FG w W.heap.size (List.replicate n 0) (W.alloc (.cells (cs (List.replicate n 0)) 2)) :=
  ⟨hr.alloc _, hr.lt, Blk.new _ _ _, bmore hb _⟩
theorem pfe_ge {xs : List Int} {k : Int} (h : pfC xs k = 0) : ∀ i, i < xs.length → -8 ≤ xs.getD i 0 ∧ xs.getD i 0 ≤ 8 := by
  intro i hi
  obtain ⟨_, _, k0, k8, hn, _⟩ := pf_yes h
  have hm : xs.getD i 0 ∈ xs := by rw [List.getD_eq_getElem?_getD, List.getElem?_eq_getElem hi]; exact List.getElem_mem hi
  have := abs_le_nm xs _ hm
  omega
set_option maxHeartbeats 4000000 in
theorem implShapeOf_calls (v : Value) (xs : List Int) (k g : Int) (w : World) (h : Sl .i64 w v xs) (hf : Fits v) (hm : xs.length ≤ 1048576) :
    Calls Try.prog 13 #[v, .int .i64 k, .int .i64 g] w fun e w' => ∃ u, e = .returned (.agg #[.int .i64 (shC xs k g), u]) ∧ OwI w.heap.size w' u (shL xs k g) ∧ Below w.heap.size w w' := by
  have HF := hid (fun W (hW : Sl .i64 W v xs) => implPulsesFault_calls v xs k W hW hf hm)
  have HS0 := hid (h.later (bmore (Below.refl _ w) (.cells #[.int .i64 0, .slice none 0 0] 28)))
  have HSw := hid h
  have HG := hid (isGain_calls g)
  obtain ⟨a, cap, hv, _⟩ := h
  subst hv
  clear hf
  by_cases hp : pfC xs k = 0
  · obtain ⟨p1, p4, k0, k8, _, _⟩ := pf_yes hp
    have hsc : shC xs k g = if (pk1 k && gnB g) = true then 0 else 3 := if_pos hp
    by_cases hk : k = 0
    · have hc : shC xs k g = 3 := by rw [hsc, hk]; rfl
      have H : Hid (3 = shC xs k g ∧ [] = shL xs k g) := ⟨hc.symm, by unfold shL; rw [if_neg (by rw [hc]; decide)]⟩
      rw [hp] at HF
      subst hk
      clear hsc hc hp HG p1 p4 k8 k0
      generalize shC xs 0 g = sc at *
      generalize shL xs 0 g = sl at *
      go_enter Try.func13, Try.ntmps13
      go_wp2_with fail
      refine (HF.out _ HS0.out).mono ?_
      rintro e w1 ⟨rfl, hb1⟩
      have HR1 := hid ((Blk.new w #[.int .i64 0, .slice none 0 0] 28).later hb1)
      have HB1 := hid (bthen (bmore (Below.refl _ w) _) hb1)
      obtain ⟨c0, c1, f0, f1⟩ := HR1.out.two
      clear hb1 HF HS0 HR1
      go_wp2
      exact bodyPost_ret (v := .agg #[.int .i64 3, .slice none 0 0]) (by simp [results, Try.results13, go_sem, c0, c1]) rfl ⟨_, by rw [← H.out.1], by rw [← H.out.2]; exact nil_own _ _, below_set2 HB1.out _ _⟩
    · have hk1 : pk1 k = true := inB_yes (by omega) (by omega)
      have bk : (k == 0) = false := by simpa using hk
      cases hg : gnB g
      · have hc : shC xs k g = 3 := by rw [hsc, hk1, hg]; rfl
        have H : Hid (3 = shC xs k g ∧ [] = shL xs k g) := ⟨hc.symm, by unfold shL; rw [if_neg (by rw [hc]; decide)]⟩
        rw [hp] at HF
        rw [hg] at HG
        clear hsc hc hp hg hk1 hk
        generalize shC xs k g = sc at *
        generalize shL xs k g = sl at *
        go_enter Try.func13, Try.ntmps13
        go_wp2_with fail
        refine (HF.out _ HS0.out).mono ?_
        rintro e w1 ⟨rfl, hb1⟩
        have HR1 := hid ((Blk.new w #[.int .i64 0, .slice none 0 0] 28).later hb1)
        have HB1 := hid (bthen (bmore (Below.refl _ w) _) hb1)
        obtain ⟨c0, c1, f0, f1⟩ := HR1.out.two
        clear hb1 HF HS0 HR1
        go_wp2_with fail
        refine (HG.out _).mono ?_
        rintro e w' ⟨rfl, rfl⟩
        go_wp2
        exact bodyPost_ret (v := .agg #[.int .i64 3, .slice none 0 0]) (by simp [results, Try.results13, go_sem, c0, c1]) rfl ⟨_, by rw [← H.out.1], by rw [← H.out.2]; exact nil_own _ _, below_set2 HB1.out _ _⟩
      · have hgb := of_inB hg
        have hc : shC xs k g = 0 := by rw [hsc, hk1, hg]; rfl
        have H : Hid (0 = shC xs k g ∧ shL0 xs k g = shL xs k g) := ⟨hc.symm, by unfold shL; rw [if_pos hc]⟩
        have hbd := hid (pfe_ge hp)
        have hmm : shL0 xs k g = mkL xs.length (fun i => nearV (g * xs.getD i 0) k) := by
          unfold shL0
          refine ext_g (by rw [List.length_map, mkL_len]) ?_
          intro i hi
          rw [List.length_map] at hi
          rw [mkL_get _ hi]
          simp [List.getD_eq_getElem?_getD, List.getElem?_eq_getElem hi]
        have hne : xs ≠ [] := by intro e; rw [e] at p1; simp at p1
        have hmk := fun W => make_i xs.length (by omega) W
        have HLn := hid (fun j => up_len xs.length j (fun i => nearV (g * xs.getD i 0) k))
        have HSt := hid (fun j (hj : j < xs.length) => up_set (fun i => nearV (g * xs.getD i 0) k) hj)
        have HAl := hid ((up_all xs.length (fun i => nearV (g * xs.getD i 0) k)).trans (hmm.symm.trans H.out.2))
        have HNo := hid (up_none xs.length (fun i => nearV (g * xs.getD i 0) k))
        have HR := hid near_calls
        have hn4 : (xs.length : Int) ≤ 4 := by omega
        have hk0 : 0 < k := by omega
        rw [hp] at HF
        rw [hg] at HG
        clear hsc hc hp hg hk1 hk hmm p1
        generalize shC xs k g = sc at *
        generalize shL xs k g = sl at *
        generalize hFF : (fun i => nearV (g * xs.getD i 0) k) = F at *
        have HFF : Hid (∀ i, F i = nearV (g * xs.getD i 0) k) := fun i => by rw [← hFF]
        clear hFF
        go_enter Try.func13, Try.ntmps13
        go_wp2_with fail
        refine (HF.out _ HS0.out).mono ?_
        rintro e w1 ⟨rfl, hb1⟩
        have HR1 := hid ((Blk.new w #[.int .i64 0, .slice none 0 0] 28).later hb1)
        have HB1 := hid (bthen (bmore (Below.refl _ w) (.cells #[.int .i64 0, .slice none 0 0] 28)) hb1)
        have HS1 := hid (HS0.out.later hb1)
        clear hb1 HF HS0
        go_wp2_with fail
        refine (HG.out _).mono ?_
        rintro e w1 ⟨rfl, rfl⟩
        have H0 := hid (FG.new HR1.out HB1.out xs.length)
        rw [← HNo.out] at H0
        have hmk1 := hmk w1
        rw [← HNo.out] at hmk1
        clear hmk HS1
        go_wp2_with fail
        generalize w1.heap.size = gb at *
        go_loopw [31] (fun iv wr => ∃ j : Nat, j ≤ xs.length ∧ iv = .int .i64 (j : Int) ∧ Hid (FG w gb (upTo xs.length j F) wr)) (fun iv _ => xs.length - (intOf iv).toNat)
        case atStart => exact ⟨0, Nat.zero_le _, rfl, H0⟩
        case round =>
          obtain ⟨j, hj, rfl, hF⟩ := hrel
          clear H0 hmk1
          by_cases hlt : j < xs.length
          · obtain ⟨a', cap', hv, hc⟩ := HSw.out.later hF.out.b
            cases hv
            obtain ⟨b, off, rfl, hbl, hcell⟩ := hc hne
            have hce := hcell j hlt
            have hxb := hbd.out j hlt
            have hx := HFF.out j
            have hs := HSt.out j hlt
            have hl := HLn.out j
            have hjI : (j : Int) < (xs.length : Int) := by omega
            obtain ⟨e0, f0⟩ := hF.out.l.cell j (by omega)
            clear hc hcell HLn HSt HAl HFF hbd hne
            generalize xs.getD j 0 = y at *
            have hmb : -536870912 ≤ g * y ∧ g * y ≤ 536870912 := by
              have a1 := Int.mul_le_mul_of_nonneg_left hxb.2 hgb.1
              have a2 := Int.mul_le_mul_of_nonneg_left hxb.1 hgb.1
              generalize g * y = x at *
              omega
            have HRr := hid (fun W => HR.out (g * y) k W (by omega) (by omega) (by omega) (by omega))
            have kx : wrap64 (g * y) = g * y := wrap_of (by omega) (by omega)
            have hs2 : upTo xs.length (j + 1) F = (upTo xs.length j F).set j (nearV (g * y) k) := by first | exact hs.symm | (rw [← hx]; exact hs.symm)
            have HSS := hid hs2
            clear HR hx hs hs2
            generalize nearV (g * y) k = nx at *
            generalize upTo xs.length j F = ys at *
            have F1 := hid (hF.out.set j nx)
            clear hF hl
            go_wp2_with fail
            refine (HRr.out _).mono ?_
            rintro e w3 ⟨rfl, rfl⟩
            go_wp2
            go_roundw
            case rel => exact ⟨j + 1, by omega, by go_num, by rw [HSS.out]; exact F1⟩
            case measure => simp [intOf]; omega
          · obtain rfl : j = xs.length := by omega
            obtain ⟨c0, c1, f0, f1⟩ := hF.out.r.two
            have hO := hF.out.l.ow (base := w.heap.size + 1) hF.out.n (by rw [HLn.out]; omega)
            rw [HLn.out, HAl.out] at hO
            have HO := hid (hO.set2 (.int .i64 0) (.slice (some ⟨gb, 0, none⟩) xs.length xs.length))
            have HB2 := hid (below_set2 hF.out.b (.int .i64 0) (.slice (some ⟨gb, 0, none⟩) xs.length xs.length))
            clear hF hO HLn HSt HAl HFF hbd hne
            go_wp2
            exact bodyPost_ret (v := .agg #[.int .i64 0, .slice (some ⟨gb, 0, none⟩) xs.length xs.length]) (by simp [results, Try.results13, go_sem, c0, c1]) rfl ⟨_, by rw [← H.out.1], HO.out, HB2.out⟩
  · have hnc : shC xs k g = pfC xs k := if_neg hp
    have H : Hid (pfC xs k = shC xs k g ∧ [] = shL xs k g) := ⟨hnc.symm, by unfold shL; rw [hnc, if_neg hp]⟩
    have hb : (pfC xs k != 0) = true := by simpa using hp
    clear hnc hp
    generalize pfC xs k = c at *
    generalize shC xs k g = sc at *
    generalize shL xs k g = sl at *
    go_enter Try.func13, Try.ntmps13
    go_wp2_with fail
    refine (HF.out _ HS0.out).mono ?_
    rintro e w1 ⟨rfl, hb1⟩
    have HR1 := hid ((Blk.new w #[.int .i64 0, .slice none 0 0] 28).later hb1)
    have HB1 := hid (bthen (bmore (Below.refl _ w) _) hb1)
    obtain ⟨c0, c1, f0, f1⟩ := HR1.out.two
    clear hb1 HF HS0 HR1
    go_wp2
    exact bodyPost_ret (v := .agg #[.int .i64 c, .slice none 0 0]) (by simp [results, Try.results13, go_sem, c0, c1]) rfl ⟨_, by rw [← H.out.1], by rw [← H.out.2]; exact nil_own _ _, below_set2 HB1.out _ _⟩
end Go.Proofs.Ytbbejjlgfekipaa.ShaP
