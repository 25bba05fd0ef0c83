/- The program's gains and fills: what is a gain, what stands where only the gain is known, how near it is. No conditions. -/
import Derived.Test.YtkbkklhofffimaaShaM
import Derived.Test.YtkbkklhofffimaaBkI
namespace Go.Proofs.Ytkbkklhofffimaa.ShaF
open Go.ChangeShapes Go.WideShapes Go.ChangeAt Go.RowKit Go.Proofs.Ytkbkklhofffimaa.Num Go.Proofs.Ytkbkklhofffimaa.Sli Go.Proofs.Ytkbkklhofffimaa.App Go.Proofs.Ytkbkklhofffimaa.Blk Go.Proofs.Ytkbkklhofffimaa.Div Go.Proofs.Ytkbkklhofffimaa.HalM Go.Proofs.Ytkbkklhofffimaa.PulM Go.Proofs.Ytkbkklhofffimaa.ShaM Go.Proofs.Ytkbkklhofffimaa.IntL Go.Proofs.Ytkbkklhofffimaa.IntA Go.Proofs.Ytkbkklhofffimaa.BkI

/-- A list that is filled place by place. -/
def upTo (n j : Nat) (f : Nat → Int) : List Int := mkL n (fun i => if i < j then f i else 0)
theorem up_len (n j : Nat) (f : Nat → Int) : (upTo n j f).length = n := mkL_len _ _
theorem up_none (n : Nat) (f : Nat → Int) : upTo n 0 f = List.replicate n 0 := by
  apply ext_g (by rw [up_len, List.length_replicate])
  intro i hi
  rw [up_len] at hi
  unfold upTo
  rw [mkL_get _ hi, if_neg (by omega)]
  simp [hi]
theorem up_all (n : Nat) (f : Nat → Int) : upTo n n f = mkL n f := mkL_congr (fun _ hi => if_pos hi)
theorem up_set {n j : Nat} (f : Nat → Int) (hj : j < n) : (upTo n j f).set j (f j) = upTo n (j + 1) f := by
  apply ext_g (by rw [List.length_set, up_len, up_len])
  intro i hi
  rw [List.length_set, up_len] at hi
  have e2 : (upTo n (j + 1) f).getD i 0 = if i < j + 1 then f i else 0 := mkL_get _ hi
  have e1 : (upTo n j f).getD i 0 = if i < j then f i else 0 := mkL_get _ hi
  rw [e2]
  by_cases e : j = i
  · subst e
    rw [List.getD_eq_getElem?_getD, List.getElem?_set_self (by rw [up_len]; exact hj), if_pos (by omega)]; rfl
  · rw [List.getD_eq_getElem?_getD, List.getElem?_set_ne e, ← List.getD_eq_getElem?_getD, e1]
    by_cases q : i < j
    · rw [if_pos q, if_pos (by omega)]
    · rw [if_neg q, if_neg (by omega)]
theorem set_same (l : List Int) (j : Nat) (x y : Int) : (l.set j x).set j y = l.set j y := List.set_set ..
theorem get_set {l : List Int} {j : Nat} (x : Int) (h : j < l.length) : (l.set j x).getD j 0 = x := by
  rw [List.getD_eq_getElem?_getD, List.getElem?_set_self h]; rfl
theorem nil_own (base : Nat) (w : World) : OwI base w (.slice none 0 0) [] := ⟨rfl, .inl ⟨rfl, rfl⟩⟩
theorem isGain_calls (g : Int) (w : World) : Calls Try.prog 23 #[.int .i64 g] w fun e w' => e = .returned (.bool (gnB g)) ∧ w' = w := by
  have HI := hid (isWithin_calls g 0 67108864)
  go_enter Try.func23, Try.ntmps23
  go_wp2_with (go_at_call 22; refine (HI.out _).mono ?_; rintro e w' ⟨rfl, rfl⟩)
  go_ret
  exact ⟨rfl, rfl⟩
theorem implFillBound_calls (n g : Int) (w : World) : Calls Try.prog 10 #[.int .i64 n, .int .i64 g] w fun e w' => e = .returned (.agg #[.int .i64 (fbC n g), .int .i64 (fbV n g)]) ∧ Below w.heap.size w w' := by
  have HA := hid (isGain_calls n)
  have HB := hid (isGain_calls g)
  cases ha : gnB n
  · have ho : fbO n g = false := by unfold fbO; rw [ha]; rfl
    have H : Hid (3 = fbC n g ∧ 0 = fbV n g) := ⟨(if_neg (by rw [ho]; decide)).symm, (if_neg (by rw [ho]; decide)).symm⟩
    rw [ha] at HA
    clear ha ho HB
    go_enter Try.func10, Try.ntmps10
    go_wp2_with fail
    refine (HA.out _).mono ?_
    rintro e w' ⟨rfl, rfl⟩
    go_wp2
    exact bodyPost_ret (v := .agg #[.int .i64 3, .int .i64 0]) (by simp [results, Try.results10, go_sem]) rfl ⟨ret_two H.out.1 H.out.2, bmore (Below.refl _ _) _⟩
  · rw [ha] at HA
    cases hb : gnB g
    · have ho : fbO n g = false := by unfold fbO; rw [hb, Bool.and_false]
      have H : Hid (3 = fbC n g ∧ 0 = fbV n g) := ⟨(if_neg (by rw [ho]; decide)).symm, (if_neg (by rw [ho]; decide)).symm⟩
      rw [hb] at HB
      clear ha hb ho
      go_enter Try.func10, Try.ntmps10
      go_wp2_with fail
      refine (HA.out _).mono ?_
      rintro e w' ⟨rfl, rfl⟩
      go_wp2_with fail
      refine (HB.out _).mono ?_
      rintro e w' ⟨rfl, rfl⟩
      go_wp2
      exact bodyPost_ret (v := .agg #[.int .i64 3, .int .i64 0]) (by simp [results, Try.results10, go_sem]) rfl ⟨ret_two H.out.1 H.out.2, bmore (Below.refl _ _) _⟩
    · have ho : fbO n g = true := by unfold fbO; rw [ha, hb]; rfl
      have h1 := of_inB ha
      have h2 := of_inB hb
      have H : Hid (0 = fbC n g ∧ n + g = fbV n g) := ⟨(if_pos ho).symm, (if_pos ho).symm⟩
      rw [hb] at HB
      clear ha hb ho
      go_enter Try.func10, Try.ntmps10
      go_wp2_with fail
      refine (HA.out _).mono ?_
      rintro e w' ⟨rfl, rfl⟩
      go_wp2_with fail
      refine (HB.out _).mono ?_
      rintro e w' ⟨rfl, rfl⟩
      go_wp2
      exact bodyPost_ret (v := .agg #[.int .i64 0, .int .i64 (n + g)]) (by simp [results, Try.results10, go_sem]) rfl ⟨ret_two H.out.1 H.out.2, bmore (Below.refl _ _) _⟩
/-- A list that is filled, its block and the answer's. -/
structure FW (w : World) (l : List Int) (W : World) : Prop where
  r : Blk W w.heap.size #[.int .i64 0, .slice none 0 0] 28
  l : Bi W (w.heap.size + 1) l
  b : Below w.heap.size w W
theorem FW.set {w W : World} {l : List Int} (h : FW w l W) (j : Nat) (x : Int) : FW w (l.set j x) (W.setCell ⟨w.heap.size + 1, j, none⟩ (.int .i64 x)) :=
  ⟨h.r.other (by omega) _ _, h.l.set j x, below_cell h.b (by omega) _ _⟩
theorem FW.new (w : World) (n : Nat) : FW w (List.replicate n 0) ((w.alloc (.cells #[.int .i64 0, .slice none 0 0] 28)).alloc (.cells (cs (List.replicate n 0)) 2)) := by
  refine ⟨(Blk.new w _ _).alloc _, ?_, bmore (bmore (Below.refl _ _) _) _⟩
  have := Blk.new (w.alloc (.cells #[.int .i64 0, .slice none 0 0] 28)) (cs (List.replicate n 0)) 2
  rwa [World.size_alloc] at this
set_option maxHeartbeats 4000000 in
theorem implFillOf_calls (d g : Int) (w : World) : Calls Try.prog 8 #[.int .i64 d, .int .i64 g] w fun e w' => ∃ u, e = .returned (.agg #[.int .i64 (flC d g), u]) ∧ OwI w.heap.size w' u (flL d g) ∧ Below w.heap.size w w' := by
  have HA := hid (isWithin_calls d 1 4)
  have HB := hid (isGain_calls g)
  cases ha : inB 1 4 d
  · have ho : flO d g = false := by unfold flO pdB; rw [ha]; rfl
    have H : Hid (3 = flC d g ∧ [] = flL d g) := ⟨(if_neg (by rw [ho]; decide)).symm, (if_neg (by rw [ho]; decide)).symm⟩
    rw [ha] at HA
    clear ha ho HB
    go_enter Try.func8, Try.ntmps8
    go_wp2_with fail
    refine (HA.out _).mono ?_
    rintro e w' ⟨rfl, rfl⟩
    go_wp2
    exact bodyPost_ret (v := .agg #[.int .i64 3, .slice none 0 0]) (by simp [results, Try.results8, go_sem]) rfl ⟨_, by rw [← H.out.1], by rw [← H.out.2]; exact nil_own _ _, bmore (Below.refl _ _) _⟩
  · rw [ha] at HA
    cases hb : gnB g
    · have ho : flO d g = false := by unfold flO; rw [hb, Bool.and_false]
      have H : Hid (3 = flC d g ∧ [] = flL d g) := ⟨(if_neg (by rw [ho]; decide)).symm, (if_neg (by rw [ho]; decide)).symm⟩
      rw [hb] at HB
      clear ha hb ho
      go_enter Try.func8, Try.ntmps8
      go_wp2_with fail
      refine (HA.out _).mono ?_
      rintro e w' ⟨rfl, rfl⟩
      go_wp2_with fail
      refine (HB.out _).mono ?_
      rintro e w' ⟨rfl, rfl⟩
      go_wp2
      exact bodyPost_ret (v := .agg #[.int .i64 3, .slice none 0 0]) (by simp [results, Try.results8, go_sem]) rfl ⟨_, by rw [← H.out.1], by rw [← H.out.2]; exact nil_own _ _, bmore (Below.refl _ _) _⟩
    · have ho : flO d g = true := by unfold flO pdB; rw [ha, hb]; rfl
      have h1 := of_inB ha
      have h2 := of_inB hb
      obtain ⟨n, rfl⟩ := Int.eq_ofNat_of_zero_le (show 0 ≤ d by omega)
      have H : Hid (0 = flC (n : Int) g ∧ mkL n (flE n g) = flL (n : Int) g) := ⟨(if_pos ho).symm, (if_pos ho).symm⟩
      have g0 := h2.1
      have g1 := h2.2
      have hq0 : 0 ≤ g / (n : Int) := Int.ediv_nonneg g0 (by omega)
      have hq1 : g / (n : Int) ≤ g := Int.ediv_le_self _ g0
      have hd : g.tdiv (n : Int) = g / (n : Int) := Int.tdiv_eq_ediv_of_nonneg g0
      have hr : g.tmod (n : Int) = g % (n : Int) := Int.tmod_eq_emod_of_nonneg g0
      have hr0 := Int.emod_nonneg g (show (n : Int) ≠ 0 by omega)
      have hE : Hid (∀ i : Nat, flE n g i = (if i % 2 = 1 then -1 else 1) * (g / (n : Int) + if (i : Int) < g % (n : Int) then 1 else 0)) := fun _ => rfl
      have hn1 : (1 : Int) ≤ n := by omega
      have hn4 : (n : Int) ≤ 4 := by omega
      have hmk := make_i n (by omega)
      have H0 := hid (FW.new w n)
      rw [← up_none n (flE n g)] at H0 hmk
      have HSt := hid (fun j (hj : j < n) => up_set (flE n g) hj)
      have HLn := hid (fun j => up_len n j (flE n g))
      have HAl := hid ((up_all n (flE n g)).trans H.out.2)
      rw [hb] at HB
      clear ha hb ho h1 h2
      generalize g / (n : Int) = q at *
      generalize g % (n : Int) = r at *
      go_enter Try.func8, Try.ntmps8
      go_wp2_with fail
      refine (HA.out _).mono ?_
      rintro e w' ⟨rfl, rfl⟩
      go_wp2_with fail
      refine (HB.out _).mono ?_
      rintro e w' ⟨rfl, rfl⟩
      go_wp2_with fail
      go_loopw [20] (fun iv wr => ∃ j : Nat, j ≤ n ∧ iv = .int .i64 (j : Int) ∧ Hid (FW w (upTo n j (flE n g)) wr)) (fun iv _ => n - (intOf iv).toNat)
      case atStart => exact ⟨0, Nat.zero_le _, rfl, H0⟩
      case round =>
        obtain ⟨j, hj, rfl, hF⟩ := hrel
        clear H0 hmk
        by_cases hlt : j < n
        · have hx := hE.out j
          have hs := HSt.out j hlt
          have hl := HLn.out j
          have hjI : (j : Int) < (n : Int) := by omega
          clear hE HSt HLn HAl H
          obtain ⟨zs, hz⟩ : ∃ zs, upTo n (j + 1) (flE n g) = zs := ⟨_, rfl⟩
          have HZ := hid hz
          rw [hz] at hs
          clear hz
          generalize upTo n j (flE n g) = ys at *
          generalize flE n g j = x at *
          have F1 := hid (hF.out.set j q)
          have e0 := hF.out.l.cell j (by omega)
          have e1 := F1.out.l.cell j (by rw [List.length_set]; omega)
          rw [get_set q (by omega)] at e1
          obtain ⟨c0, f0⟩ := e0
          obtain ⟨c1, f1⟩ := e1
          by_cases hir : (j : Int) < r
          · rw [if_pos hir] at hx
            have F2 := hid (F1.out.set j (q + 1))
            rw [set_same] at F2
            have e2 := F2.out.l.cell j (by rw [List.length_set]; omega)
            rw [get_set (q + 1) (by omega)] at e2
            obtain ⟨c2, f2⟩ := e2
            by_cases hm : j % 2 = 1
            · rw [if_pos hm] at hx
              have ht : ((j : Int)).tmod 2 = 1 := by rw [Int.tmod_eq_emod_of_nonneg (by omega)]; omega
              have hX : x = -(q + 1) := by rw [hx]; omega
              have F3 := hid (F2.out.set j (-(q + 1)))
              rw [set_same, ← hX, hs] at F3
              rw [hX] at F3
              clear hx hX hs hl hF F1 F2
              go_wp2
              go_roundw
              case rel => exact ⟨j + 1, by omega, by go_num, by rw [HZ.out]; exact F3⟩
              case measure => simp [intOf]; omega
            · rw [if_neg hm] at hx
              have ht : ((j : Int)).tmod 2 = 0 := by rw [Int.tmod_eq_emod_of_nonneg (by omega)]; omega
              have hX : x = q + 1 := by rw [hx]; omega
              rw [← hX, hs] at F2
              rw [hX] at F2
              clear hx hX hs hl hF F1
              go_wp2
              go_roundw
              case rel => exact ⟨j + 1, by omega, by go_num, by rw [HZ.out]; exact F2⟩
              case measure => simp [intOf]; omega
          · rw [if_neg hir] at hx
            by_cases hm : j % 2 = 1
            · rw [if_pos hm] at hx
              have ht : ((j : Int)).tmod 2 = 1 := by rw [Int.tmod_eq_emod_of_nonneg (by omega)]; omega
              have hX : x = -q := by rw [hx]; omega
              have F3 := hid (F1.out.set j (-q))
              rw [set_same, ← hX, hs] at F3
              rw [hX] at F3
              clear hx hX hs hl hF F1
              go_wp2
              go_roundw
              case rel => exact ⟨j + 1, by omega, by go_num, by rw [HZ.out]; exact F3⟩
              case measure => simp [intOf]; omega
            · rw [if_neg hm] at hx
              have ht : ((j : Int)).tmod 2 = 0 := by rw [Int.tmod_eq_emod_of_nonneg (by omega)]; omega
              have hX : x = q := by rw [hx]; omega
              rw [← hX, hs] at F1
              rw [hX] at F1
              clear hx hX hs hl hF
              go_wp2
              go_roundw
              case rel => exact ⟨j + 1, by omega, by go_num, by rw [HZ.out]; exact F1⟩
              case measure => simp [intOf]; omega
        · obtain rfl : j = n := by omega
          obtain ⟨c0, c1, f0, f1⟩ := hF.out.r.two
          have hO := hF.out.l.ow (base := w.heap.size + 1) (Nat.le_refl _) (by rw [HLn.out]; omega)
          rw [HLn.out, HAl.out] at hO
          have HO := hid (hO.set2 (.int .i64 0) (.slice (some ⟨w.heap.size + 1, 0, none⟩) j j))
          have HB2 := hid (below_set2 hF.out.b (.int .i64 0) (.slice (some ⟨w.heap.size + 1, 0, none⟩) j j))
          clear hF hO hE HSt HLn HAl
          go_wp2
          exact bodyPost_ret (v := .agg #[.int .i64 0, .slice (some ⟨w.heap.size + 1, 0, none⟩) j j]) (by simp [results, Try.results8, go_sem, c0, c1]) rfl ⟨_, by rw [← H.out.1], HO.out, HB2.out⟩
end Go.Proofs.Ytkbkklhofffimaa.ShaF
