/- The model's gains, fills, bounds of shapes and shapes. Conditions: lists of at most 1048576 numbers. -/
import Derived.Test.YtbbejjlgfekipaaShaM
import Derived.Test.YtbbejjlgfekipaaPulT
namespace Go.Proofs.Ytbbejjlgfekipaa.ShaS
open Go.ChangeShapes Go.WideShapes Go.ChangeAt Go.RowKit Go.Proofs.Ytbbejjlgfekipaa.Num Go.Proofs.Ytbbejjlgfekipaa.Div Go.Proofs.Ytbbejjlgfekipaa.Sli Go.Proofs.Ytbbejjlgfekipaa.App Go.Proofs.Ytbbejjlgfekipaa.Blk Go.Proofs.Ytbbejjlgfekipaa.IntL Go.Proofs.Ytbbejjlgfekipaa.IntA Go.Proofs.Ytbbejjlgfekipaa.Norm Go.Proofs.Ytbbejjlgfekipaa.HalM Go.Proofs.Ytbbejjlgfekipaa.PulM Go.Proofs.Ytbbejjlgfekipaa.PulT Go.Proofs.Ytbbejjlgfekipaa.ShaM

theorem l12Gain_calls (g : Int) (w : World) : Calls Try.prog 42 #[.int .i64 g] w fun e w' => e = .returned (.bool (gnB g)) ∧ w' = w := by
  have HI := hid (l1In_calls g 0 67108864)
  go_enter Try.func42, Try.ntmps42
  go_wp2_with (go_at_call 34; refine (HI.out _).mono ?_; rintro e w' ⟨rfl, rfl⟩)
  go_ret
  exact ⟨rfl, rfl⟩
set_option maxHeartbeats 1000000 in
theorem specShapeBound_calls (n k g : Int) (w : World) : Calls Try.prog 16 #[.int .i64 n, .int .i64 k, .int .i64 g] w fun e w' => e = .returned (.agg #[.int .i64 (sbC n k g), .int .i64 (sbV n k g)]) ∧ Below w.heap.size w w' := by
  have HA := hid (l12Gain_calls n)
  have HB := hid (l12Gain_calls g)
  have HK := hid (l1In_calls k 1 8)
  cases ho : sbO n k g
  · have H : Hid (3 = sbC n k g ∧ 0 = sbV n k g) := ⟨(if_neg (by rw [ho]; decide)).symm, (if_neg (by rw [ho]; decide)).symm⟩
    unfold sbO pk1 at ho
    cases ha : gnB n
    · rw [ha] at HA
      clear ha ho HB HK
      go_enter Try.func16, Try.ntmps16
      go_wp2_with fail
      refine (HA.out _).mono ?_
      rintro e w' ⟨rfl, rfl⟩
      go_wp2
      exact bodyPost_ret (v := .agg #[.int .i64 3, .int .i64 0]) (by simp [results, Try.results16, go_sem]) rfl ⟨ret_two H.out.1 H.out.2, bmore (Below.refl _ _) _⟩
    · rw [ha] at HA
      cases hb : gnB g
      · rw [hb] at HB
        clear ha hb ho HK
        go_enter Try.func16, Try.ntmps16
        go_wp2_with fail
        refine (HA.out _).mono ?_
        rintro e w' ⟨rfl, rfl⟩
        go_wp2_with fail
        refine (HB.out _).mono ?_
        rintro e w' ⟨rfl, rfl⟩
        go_wp2
        exact bodyPost_ret (v := .agg #[.int .i64 3, .int .i64 0]) (by simp [results, Try.results16, go_sem]) rfl ⟨ret_two H.out.1 H.out.2, bmore (Below.refl _ _) _⟩
      · have hk : inB 1 8 k = false := by rw [ha, hb] at ho; simpa using ho
        rw [hb] at HB
        rw [hk] at HK
        clear ha hb ho hk
        go_enter Try.func16, Try.ntmps16
        go_wp2_with fail
        refine (HA.out _).mono ?_
        rintro e w' ⟨rfl, rfl⟩
        go_wp2_with fail
        refine (HB.out _).mono ?_
        rintro e w' ⟨rfl, rfl⟩
        go_wp2_with fail
        refine (HK.out _).mono ?_
        rintro e w' ⟨rfl, rfl⟩
        go_wp2
        exact bodyPost_ret (v := .agg #[.int .i64 3, .int .i64 0]) (by simp [results, Try.results16, go_sem]) rfl ⟨ret_two H.out.1 H.out.2, bmore (Below.refl _ _) _⟩
  · have ho2 := ho
    unfold sbO pk1 at ho2
    simp at ho2
    have h1 := of_inB ho2.1
    have h2 := of_inB ho2.2.1
    have h3 := of_inB ho2.2.2
    have hc := ceilV_bd n k h1.1 (by omega)
    have H : Hid (0 = sbC n k g ∧ ceilV n k + g + 1 = sbV n k g) := ⟨(if_pos ho).symm, (if_pos ho).symm⟩
    rw [ho2.1] at HA
    rw [ho2.2.1] at HB
    rw [ho2.2.2] at HK
    have HC := hid (fun W => l1Ceil_calls n k W (by omega) (by omega) (by omega) (by omega))
    clear ho ho2
    generalize ceilV n k = c at *
    go_enter Try.func16, Try.ntmps16
    go_wp2_with fail
    refine (HA.out _).mono ?_
    rintro e w' ⟨rfl, rfl⟩
    go_wp2_with fail
    refine (HB.out _).mono ?_
    rintro e w' ⟨rfl, rfl⟩
    go_wp2_with fail
    refine (HK.out _).mono ?_
    rintro e w' ⟨rfl, rfl⟩
    go_wp2_with fail
    refine (HC.out _).mono ?_
    rintro e w' ⟨rfl, rfl⟩
    go_wp2
    exact bodyPost_ret (v := .agg #[.int .i64 0, .int .i64 (c + g + 1)]) (by simp [results, Try.results16, go_sem]) rfl ⟨ret_two H.out.1 H.out.2, bmore (Below.refl _ _) _⟩
set_option maxRecDepth 100000 in
set_option maxHeartbeats 2000000 in
theorem l12Shape_calls (v : Value) (l : List Int) (k g : Int) (w : World) (h : Sl .i64 w v l) (hl : l.length ≤ 4) (hk : 1 ≤ k ∧ k ≤ 8) (hg : 0 ≤ g ∧ g ≤ 67108864) (hb : ∀ i, i < l.length → -8 ≤ l.getD i 0 ∧ l.getD i 0 ≤ 8) :
    Calls Try.prog 43 #[v, .int .i64 k, .int .i64 g] w fun e w' => ∃ u, e = .returned u ∧ OwI w.heap.size w' u (shL0 l k g) ∧ Below w.heap.size w w' := by
  have Hs := hid h
  obtain ⟨a, cap, rfl, _⟩ := h
  have hm : shL0 l k g = mkL l.length (fun i => nearV (g * l.getD i 0) k) := by
    unfold shL0
    refine ext_g (by rw [List.length_map, mkL_len]) ?_
    intro i hi
    rw [List.length_map] at hi
    rw [mkL_get _ hi]
    simp [List.getD_eq_getElem?_getD, List.getElem?_eq_getElem hi]
  rw [hm]
  have HR := hid l1Round_calls
  have Hb := hid hb
  have HSu : Hid (∀ i, mkL (i + 1) (fun i => nearV (g * l.getD i 0) k) = mkL i (fun i => nearV (g * l.getD i 0) k) ++ [nearV (g * l.getD i 0) k]) := fun i => mkL_succ i _
  have HLn : Hid (∀ i, (mkL i (fun i => nearV (g * l.getD i 0) k)).length = i) := fun i => mkL_len _ _
  have H0 := hid (ow_new .i64 2 w.heap.size w (Nat.le_refl _))
  have HB0 := hid (bmore (Below.refl _ w) (.cells #[] 2))
  have hlI : (l.length : Int) ≤ 4 := by omega
  clear hm hb
  generalize hF : (fun i => nearV (g * l.getD i 0) k) = F at *
  have HF : Hid (∀ i, F i = nearV (g * l.getD i 0) k) := fun i => by rw [← hF]
  clear hF
  go_enter Try.func43, Try.ntmps43
  go_wp2_with fail
  go_loopw [7, 8] (fun o iv wr => ∃ i gb cap : Nat, i ≤ l.length ∧ o = .slice (some ⟨gb, 0, none⟩) i cap ∧ iv = .int .i64 (i : Int) ∧ Hid (OwI w.heap.size wr (.slice (some ⟨gb, 0, none⟩) i cap) (mkL i F)) ∧ Hid (Below w.heap.size w wr)) (fun _ iv _ => l.length - (intOf iv).toNat)
  case atStart => exact ⟨0, _, _, Nat.zero_le _, rfl, rfl, H0.out, HB0.out⟩
  case round =>
    obtain ⟨i, gb, cap2, hi, rfl, rfl, hO, hB⟩ := hrel
    clear H0 HB0
    by_cases hlt : i < l.length
    · have hne : l ≠ [] := by intro e; rw [e] at hlt; simp at hlt
      obtain ⟨a', cap', hv, hc⟩ := Hs.out.later hB.out
      cases hv
      obtain ⟨b, off, rfl, hbl, hcell⟩ := hc hne
      have hce := hcell i hlt
      have hxb := Hb.out i hlt
      have hx := HF.out i
      have hs := HSu.out i
      have HL := hid (HLn.out i)
      have hiI : (i : Int) < (l.length : Int) := by omega
      clear hc hcell HF HLn Hb HSu
      generalize l.getD i 0 = y at *
      have hmb : -536870912 ≤ g * y ∧ g * y ≤ 536870912 := by
        have a1 := Int.mul_le_mul_of_nonneg_left hxb.2 hg.1
        have a2 := Int.mul_le_mul_of_nonneg_left hxb.1 hg.1
        generalize g * y = x at *
        omega
      have HRr := hid (fun W => HR.out (g * y) k W (by omega) (by omega) (by omega) (by omega))
      have kx : IntKind.i64.wrap (g * y) = g * y := wrapk_of (by omega) (by omega)
      have HSu2 : Hid (mkL (i + 1) F = mkL i F ++ [nearV (g * y) k]) := hs
      clear HR hx hs
      generalize nearV (g * y) k = nx at *
      generalize mkL i F = ys at *
      have hsz := hB.out.size
      go_wp2_with fail
      refine (HRr.out _).mono ?_
      rintro e w3 ⟨rfl, rfl⟩
      have HO1 := hid (hO.out.alloc (.cells #[.int .i64 nx] 2))
      have HB1 := hid (bmore hB.out (.cells #[.int .i64 nx] 2))
      clear hO hB hce
      go_wp2_with (at_builtin; refine wpList_append_ints _ rfl _ _ rfl w.heap.size _ ys rfl HO1.out _ [nx] rfl (sl_lit _ _ _ _ _ _ rfl rfl) (by simp) ?c1 ?c2 ?_)
      case c1 => have := HL.out; (try simp only [List.length_singleton]); omega
      case c2 => (try simp); omega
      intro g5 cap5 n5 w5 hn5 ho5 hg5 _
      have HB5 := hid (HB1.out.trans (below_of_grown hg5 (by simp; omega) (fun j e => (HO1.out.block j e).1)))
      have hn : n5 = i + 1 := by have := HL.out; first | omega | (simp only [List.length_append, List.length_singleton] at hn5; omega)
      subst hn
      have HO5 := hid ho5
      clear hn5 ho5 hg5 HO1 HB1
      go_wp2
      go_roundw
      case rel => exact ⟨i + 1, g5, cap5, by omega, rfl, by go_num, by rw [HSu2.out]; exact HO5.out, HB5.out⟩
      case measure => simp [intOf]; omega
    · obtain rfl : i = l.length := by omega
      have HO5 := hid hO.out
      have HB5 := hid hB.out
      clear hO hB HF HLn Hb HSu HR
      go_wp2
      go_ret
      exact ⟨_, rfl, HO5.out, HB5.out⟩
theorem pf_each {l : List Int} {k : Int} (h : pfC l k = 0) : ∀ i, i < l.length → -8 ≤ l.getD i 0 ∧ l.getD i 0 ≤ 8 := by
  intro i hi
  obtain ⟨_, _, k0, k8, hn, _⟩ := pf_yes h
  have hm : l.getD i 0 ∈ l := by rw [List.getD_eq_getElem?_getD, List.getElem?_eq_getElem hi]; exact List.getElem_mem hi
  have := abs_le_nm l _ hm
  omega
set_option maxHeartbeats 1000000 in
theorem specShapeOf_calls (v : Value) (xs : List Int) (k g : Int) (w : World) (h : Sl .i64 w v xs) (hm : xs.length ≤ 1048576) :
    Calls Try.prog 15 #[v, .int .i64 k, .int .i64 g] w fun e w' => ∃ u, e = .returned (.agg #[.int .i64 (shC xs k g), u]) ∧ OwI w.heap.size w' u (shL xs k g) ∧ Below w.heap.size w w' := by
  have HF := hid (fun W (hW : Sl .i64 W v xs) => specPulsesFault_calls v xs k W hW hm)
  have HSl := hid (fun o => h.later ((Below.refl w.heap.size w).alloc (Nat.le_refl _) o))
  have HG := hid (l12Gain_calls g)
  by_cases hp : pfC xs k = 0
  · obtain ⟨p1, p4, k0, k8, _, _⟩ := pf_yes hp
    have hsc : shC xs k g = if (pk1 k && gnB g) = true then 0 else 3 := if_pos hp
    rw [hp] at HF
    by_cases hk : k = 0
    · have hc : shC xs k g = 3 := by rw [hsc, hk]; rfl
      have H : Hid (3 = shC xs k g ∧ [] = shL xs k g) := ⟨hc.symm, by unfold shL; rw [if_neg (by rw [hc]; decide)]⟩
      obtain ⟨a, cap, rfl, _⟩ := h
      clear hsc hc hp HG p1 p4 k8
      subst hk
      generalize shC xs 0 g = sc at *
      generalize shL xs 0 g = sl at *
      go_enter Try.func15, Try.ntmps15
      go_wp2_with fail
      refine (HF.out _ (HSl.out _)).mono ?_
      rintro e w' ⟨rfl, rfl⟩
      go_wp2
      exact bodyPost_ret (v := .agg #[.int .i64 3, .slice none 0 0]) (by simp [results, Try.results15, go_sem]) rfl ⟨_, by rw [← H.out.1], by rw [← H.out.2]; exact World.ownsRow_nil _ _ _ _, bmore (Below.refl _ _) _⟩
    · have hk1 : pk1 k = true := inB_yes (by omega) (by omega)
      have bk : (k == 0) = false := by simpa using hk
      cases hg : gnB g
      · have hc : shC xs k g = 3 := by rw [hsc, hk1, hg]; rfl
        have H : Hid (3 = shC xs k g ∧ [] = shL xs k g) := ⟨hc.symm, by unfold shL; rw [if_neg (by rw [hc]; decide)]⟩
        rw [hg] at HG
        obtain ⟨a, cap, rfl, _⟩ := h
        clear hsc hc hp hg hk1 hk
        generalize shC xs k g = sc at *
        generalize shL xs k g = sl at *
        go_enter Try.func15, Try.ntmps15
        go_wp2_with fail
        refine (HF.out _ (HSl.out _)).mono ?_
        rintro e w' ⟨rfl, rfl⟩
        go_wp2_with fail
        refine (HG.out _).mono ?_
        rintro e w' ⟨rfl, rfl⟩
        go_wp2
        exact bodyPost_ret (v := .agg #[.int .i64 3, .slice none 0 0]) (by simp [results, Try.results15, go_sem]) rfl ⟨_, by rw [← H.out.1], by rw [← H.out.2]; exact World.ownsRow_nil _ _ _ _, bmore (Below.refl _ _) _⟩
      · have hgb := of_inB hg
        have hc : shC xs k g = 0 := by rw [hsc, hk1, hg]; rfl
        have H : Hid (0 = shC xs k g ∧ shL0 xs k g = shL xs k g) := ⟨hc.symm, by unfold shL; rw [if_pos hc]⟩
        have HS0 := hid (fun W (hW : Sl .i64 W v xs) => l12Shape_calls v xs k g W hW p4 ⟨by omega, k8⟩ hgb (pf_each hp))
        rw [hg] at HG
        obtain ⟨a, cap, rfl, _⟩ := h
        have HS := hid (HS0.out _ (HSl.out (.cells #[.int .i64 0, .slice none 0 0] 28)))
        clear hsc hc hp hg hk1 hk HS0
        generalize shC xs k g = sc at *
        generalize shL xs k g = sl at *
        generalize shL0 xs k g = l at *
        go_enter Try.func15, Try.ntmps15
        go_wp2_with fail
        refine (HF.out _ (HSl.out _)).mono ?_
        rintro e w' ⟨rfl, rfl⟩
        go_wp2_with fail
        refine (HG.out _).mono ?_
        rintro e w' ⟨rfl, rfl⟩
        go_wp2_with fail
        refine HS.out.mono ?_
        rintro e w2 ⟨u, rfl, hO, hB⟩
        obtain ⟨au, cu, hu, _⟩ := hO.sl
        subst hu
        obtain ⟨c0, c1, f0, f1⟩ := ((Blk.new w #[.int .i64 0, .slice none 0 0] 28).later hB).two
        have HB2 := hid (below_set2 (bthen (bmore (Below.refl w.heap.size w) _) hB) (.int .i64 0) (.slice au l.length cu))
        have hO2 : OwI (w.heap.size + 1) w2 (.slice au l.length cu) l := by simpa using hO
        have HO := hid (hO2.set2 (.int .i64 0) (.slice au l.length cu))
        clear hB HS hO hO2
        go_wp2
        exact bodyPost_ret (v := .agg #[.int .i64 0, .slice au l.length cu]) (by simp [results, Try.results15, go_sem, c0, c1]) rfl ⟨_, by rw [← H.out.1], by rw [← H.out.2]; exact HO.out, HB2.out⟩
  · have hnc : shC xs k g = pfC xs k := if_neg hp
    have H : Hid (pfC xs k = shC xs k g ∧ [] = shL xs k g) := ⟨hnc.symm, by unfold shL; rw [hnc, if_neg hp]⟩
    have hb : (pfC xs k != 0) = true := by simpa using hp
    obtain ⟨a, cap, rfl, _⟩ := h
    clear hp hnc HG
    generalize pfC xs k = c at *
    generalize shC xs k g = sc at *
    generalize shL xs k g = sl at *
    go_enter Try.func15, Try.ntmps15
    go_wp2_with fail
    refine (HF.out _ (HSl.out _)).mono ?_
    rintro e w' ⟨rfl, rfl⟩
    go_wp2
    exact bodyPost_ret (v := .agg #[.int .i64 c, .slice none 0 0]) (by simp [results, Try.results15, go_sem]) rfl ⟨_, by rw [H.out.1], by rw [← H.out.2]; exact World.ownsRow_nil _ _ _ _, bmore (Below.refl _ _) _⟩
end Go.Proofs.Ytbbejjlgfekipaa.ShaS
