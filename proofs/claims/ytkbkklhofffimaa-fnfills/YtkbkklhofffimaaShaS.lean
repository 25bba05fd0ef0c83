/- The model's gains, fills, bounds of shapes and shapes. Conditions: lists of at most 1048576 numbers. -/
import Derived.Test.YtkbkklhofffimaaShaM
import Derived.Test.YtkbkklhofffimaaPulT
namespace Go.Proofs.Ytkbkklhofffimaa.ShaS
open Go.ChangeShapes Go.WideShapes Go.ChangeAt Go.RowKit Go.Proofs.Ytkbkklhofffimaa.Num Go.Proofs.Ytkbkklhofffimaa.Div Go.Proofs.Ytkbkklhofffimaa.Sli Go.Proofs.Ytkbkklhofffimaa.App Go.Proofs.Ytkbkklhofffimaa.Blk Go.Proofs.Ytkbkklhofffimaa.IntL Go.Proofs.Ytkbkklhofffimaa.IntA Go.Proofs.Ytkbkklhofffimaa.Norm Go.Proofs.Ytkbkklhofffimaa.HalM Go.Proofs.Ytkbkklhofffimaa.PulM Go.Proofs.Ytkbkklhofffimaa.PulT Go.Proofs.Ytkbkklhofffimaa.ShaM

theorem l12Gain_calls (g : Int) (w : World) : Calls Try.prog 25 #[.int .i64 g] w fun e w' => e = .returned (.bool (gnB g)) ∧ w' = w := by
  have HI := hid (l1In_calls g 0 67108864)
  go_enter Try.func25, Try.ntmps25
  go_wp2_with (go_at_call 24; refine (HI.out _).mono ?_; rintro e w' ⟨rfl, rfl⟩)
  go_ret
  exact ⟨rfl, rfl⟩
theorem specFillBound_calls (n g : Int) (w : World) : Calls Try.prog 12 #[.int .i64 n, .int .i64 g] w fun e w' => e = .returned (.agg #[.int .i64 (fbC n g), .int .i64 (fbV n g)]) ∧ Below w.heap.size w w' := by
  have HA := hid (l12Gain_calls n)
  have HB := hid (l12Gain_calls g)
  cases ha : gnB n
  · have ho : fbO n g = false := by unfold fbO; rw [ha]; rfl
    have H : Hid (3 = fbC n g ∧ 0 = fbV n g) := ⟨(if_neg (by rw [ho]; decide)).symm, (if_neg (by rw [ho]; decide)).symm⟩
    rw [ha] at HA
    clear ha ho HB
    go_enter Try.func12, Try.ntmps12
    go_wp2_with fail
    refine (HA.out _).mono ?_
    rintro e w' ⟨rfl, rfl⟩
    go_wp2
    exact bodyPost_ret (v := .agg #[.int .i64 3, .int .i64 0]) (by simp [results, Try.results12, go_sem]) rfl ⟨ret_two H.out.1 H.out.2, bmore (Below.refl _ _) _⟩
  · rw [ha] at HA
    cases hb : gnB g
    · have ho : fbO n g = false := by unfold fbO; rw [hb, Bool.and_false]
      have H : Hid (3 = fbC n g ∧ 0 = fbV n g) := ⟨(if_neg (by rw [ho]; decide)).symm, (if_neg (by rw [ho]; decide)).symm⟩
      rw [hb] at HB
      clear ha hb ho
      go_enter Try.func12, Try.ntmps12
      go_wp2_with fail
      refine (HA.out _).mono ?_
      rintro e w' ⟨rfl, rfl⟩
      go_wp2_with fail
      refine (HB.out _).mono ?_
      rintro e w' ⟨rfl, rfl⟩
      go_wp2
      exact bodyPost_ret (v := .agg #[.int .i64 3, .int .i64 0]) (by simp [results, Try.results12, go_sem]) rfl ⟨ret_two H.out.1 H.out.2, bmore (Below.refl _ _) _⟩
    · have ho : fbO n g = true := by unfold fbO; rw [ha, hb]; rfl
      have h1 := of_inB ha
      have h2 := of_inB hb
      have H : Hid (0 = fbC n g ∧ n + g = fbV n g) := ⟨(if_pos ho).symm, (if_pos ho).symm⟩
      rw [hb] at HB
      clear ha hb ho
      go_enter Try.func12, Try.ntmps12
      go_wp2_with fail
      refine (HA.out _).mono ?_
      rintro e w' ⟨rfl, rfl⟩
      go_wp2_with fail
      refine (HB.out _).mono ?_
      rintro e w' ⟨rfl, rfl⟩
      go_wp2
      exact bodyPost_ret (v := .agg #[.int .i64 0, .int .i64 (n + g)]) (by simp [results, Try.results12, go_sem]) rfl ⟨ret_two H.out.1 H.out.2, bmore (Below.refl _ _) _⟩
set_option maxRecDepth 100000 in
set_option maxHeartbeats 2000000 in
theorem l12Fill_calls (n : Nat) (g : Int) (w : World) (h1 : 1 ≤ n) (h4 : n ≤ 4) (g0 : 0 ≤ g) (g1 : g ≤ 67108864) :
    Calls Try.prog 26 #[.int .i64 (n : Int), .int .i64 g] w fun e w' => ∃ u, e = .returned u ∧ OwI w.heap.size w' u (mkL n (flE n g)) ∧ Below w.heap.size w w' := by
  have hq0 : 0 ≤ g / (n : Int) := Int.ediv_nonneg g0 (by omega)
  have hq1 : g / (n : Int) ≤ g := Int.ediv_le_self _ g0
  have hd : g.tdiv (n : Int) = g / (n : Int) := Int.tdiv_eq_ediv_of_nonneg g0
  have hr : g.tmod (n : Int) = g % (n : Int) := Int.tmod_eq_emod_of_nonneg g0
  have hr0 := Int.emod_nonneg g (show (n : Int) ≠ 0 by omega)
  have hE : Hid (∀ i : Nat, flE n g i = (if i % 2 = 1 then -1 else 1) * (g / (n : Int) + if (i : Int) < g % (n : Int) then 1 else 0)) := fun _ => rfl
  have H0 := hid (ow_new .i64 2 w.heap.size w (Nat.le_refl _))
  have HB0 := hid (bmore (Below.refl _ w) (.cells #[] 2))
  have hn1 : (1 : Int) ≤ n := by omega
  have hn4 : (n : Int) ≤ 4 := by omega
  generalize g / (n : Int) = q at *
  generalize g % (n : Int) = r at *
  go_enter Try.func26, Try.ntmps26
  go_wp2_with fail
  go_loopw [5, 6] (fun o iv wr => ∃ i gb cap : Nat, i ≤ n ∧ o = .slice (some ⟨gb, 0, none⟩) i cap ∧ iv = .int .i64 (i : Int) ∧ Hid (OwI w.heap.size wr (.slice (some ⟨gb, 0, none⟩) i cap) (mkL i (flE n g))) ∧ Hid (Below w.heap.size w wr)) (fun _ iv _ => n - (intOf iv).toNat)
  case atStart => exact ⟨0, _, _, Nat.zero_le _, rfl, rfl, H0.out, HB0.out⟩
  case round =>
    obtain ⟨i, gb, cap, hi, rfl, rfl, hO, hB⟩ := hrel
    clear H0 HB0
    by_cases hlt : i < n
    · have hx := hE.out i
      have hs := mkL_succ i (flE n g)
      have hl : (mkL i (flE n g)).length = i := mkL_len _ _
      have HL := hid hl
      have HSu := hid hs
      have hiI : (i : Int) < (n : Int) := by omega
      clear hE hs hl
      generalize mkL i (flE n g) = ys at *
      generalize flE n g i = x at *
      by_cases hir : (i : Int) < r
      · rw [if_pos hir] at hx
        by_cases hm : i % 2 = 1
        · rw [if_pos hm] at hx
          have ht : ((i : Int)).tmod 2 = 1 := by rw [Int.tmod_eq_emod_of_nonneg (by omega)]; omega
          have hX : x = -(q + 1) := by rw [hx]; omega
          have HX := hid hX
          clear hx hX
          have HO1 := hid (hO.out.alloc (.cells #[.int .i64 (-(q + 1))] 2))
          have HB1 := hid (bmore hB.out (.cells #[.int .i64 (-(q + 1))] 2))
          have hsz := hB.out.size
          clear hO hB
          go_wp2_with (at_builtin; refine wpList_append_ints _ rfl _ _ rfl w.heap.size _ ys rfl HO1.out _ [-(q + 1)] rfl (sl_lit _ _ _ _ _ _ rfl rfl) (by simp) ?c1 ?c2 ?_)
          case c1 => have := HL.out; (try simp only [List.length_singleton]); omega
          case c2 => (try simp); omega
          intro g5 cap5 n5 w5 hn5 ho5 hg5 _
          have HB5 := hid (HB1.out.trans (below_of_grown hg5 (by simp; omega) (fun j e => (HO1.out.block j e).1)))
          have hn : n5 = i + 1 := by have := HL.out; first | omega | (simp only [List.length_append, List.length_singleton] at hn5; omega)
          subst hn
          have HO5 := hid ho5
          clear hn5 ho5 hg5 HO1 HB1
          go_wp2
          go_roundw
          case rel => exact ⟨i + 1, g5, cap5, by omega, rfl, by go_num, by rw [HSu.out, HX.out]; exact HO5.out, HB5.out⟩
          case measure => simp [intOf]; omega
        · rw [if_neg hm] at hx
          have ht : ((i : Int)).tmod 2 = 0 := by rw [Int.tmod_eq_emod_of_nonneg (by omega)]; omega
          have hX : x = q + 1 := by rw [hx]; omega
          have HX := hid hX
          clear hx hX
          have HO1 := hid (hO.out.alloc (.cells #[.int .i64 (q + 1)] 2))
          have HB1 := hid (bmore hB.out (.cells #[.int .i64 (q + 1)] 2))
          have hsz := hB.out.size
          clear hO hB
          go_wp2_with (at_builtin; refine wpList_append_ints _ rfl _ _ rfl w.heap.size _ ys rfl HO1.out _ [q + 1] rfl (sl_lit _ _ _ _ _ _ rfl rfl) (by simp) ?c1 ?c2 ?_)
          case c1 => have := HL.out; (try simp only [List.length_singleton]); omega
          case c2 => (try simp); omega
          intro g5 cap5 n5 w5 hn5 ho5 hg5 _
          have HB5 := hid (HB1.out.trans (below_of_grown hg5 (by simp; omega) (fun j e => (HO1.out.block j e).1)))
          have hn : n5 = i + 1 := by have := HL.out; first | omega | (simp only [List.length_append, List.length_singleton] at hn5; omega)
          subst hn
          have HO5 := hid ho5
          clear hn5 ho5 hg5 HO1 HB1
          go_wp2
          go_roundw
          case rel => exact ⟨i + 1, g5, cap5, by omega, rfl, by go_num, by rw [HSu.out, HX.out]; exact HO5.out, HB5.out⟩
          case measure => simp [intOf]; omega
      · rw [if_neg hir] at hx
        by_cases hm : i % 2 = 1
        · rw [if_pos hm] at hx
          have ht : ((i : Int)).tmod 2 = 1 := by rw [Int.tmod_eq_emod_of_nonneg (by omega)]; omega
          have hX : x = -q := by rw [hx]; omega
          have HX := hid hX
          clear hx hX
          have HO1 := hid (hO.out.alloc (.cells #[.int .i64 (-q)] 2))
          have HB1 := hid (bmore hB.out (.cells #[.int .i64 (-q)] 2))
          have hsz := hB.out.size
          clear hO hB
          go_wp2_with (at_builtin; refine wpList_append_ints _ rfl _ _ rfl w.heap.size _ ys rfl HO1.out _ [-q] rfl (sl_lit _ _ _ _ _ _ rfl rfl) (by simp) ?c1 ?c2 ?_)
          case c1 => have := HL.out; (try simp only [List.length_singleton]); omega
          case c2 => (try simp); omega
          intro g5 cap5 n5 w5 hn5 ho5 hg5 _
          have HB5 := hid (HB1.out.trans (below_of_grown hg5 (by simp; omega) (fun j e => (HO1.out.block j e).1)))
          have hn : n5 = i + 1 := by have := HL.out; first | omega | (simp only [List.length_append, List.length_singleton] at hn5; omega)
          subst hn
          have HO5 := hid ho5
          clear hn5 ho5 hg5 HO1 HB1
          go_wp2
          go_roundw
          case rel => exact ⟨i + 1, g5, cap5, by omega, rfl, by go_num, by rw [HSu.out, HX.out]; exact HO5.out, HB5.out⟩
          case measure => simp [intOf]; omega
        · rw [if_neg hm] at hx
          have ht : ((i : Int)).tmod 2 = 0 := by rw [Int.tmod_eq_emod_of_nonneg (by omega)]; omega
          have hX : x = q := by rw [hx]; omega
          have HX := hid hX
          clear hx hX
          have HO1 := hid (hO.out.alloc (.cells #[.int .i64 (q)] 2))
          have HB1 := hid (bmore hB.out (.cells #[.int .i64 (q)] 2))
          have hsz := hB.out.size
          clear hO hB
          go_wp2_with (at_builtin; refine wpList_append_ints _ rfl _ _ rfl w.heap.size _ ys rfl HO1.out _ [q] rfl (sl_lit _ _ _ _ _ _ rfl rfl) (by simp) ?c1 ?c2 ?_)
          case c1 => have := HL.out; (try simp only [List.length_singleton]); omega
          case c2 => (try simp); omega
          intro g5 cap5 n5 w5 hn5 ho5 hg5 _
          have HB5 := hid (HB1.out.trans (below_of_grown hg5 (by simp; omega) (fun j e => (HO1.out.block j e).1)))
          have hn : n5 = i + 1 := by have := HL.out; first | omega | (simp only [List.length_append, List.length_singleton] at hn5; omega)
          subst hn
          have HO5 := hid ho5
          clear hn5 ho5 hg5 HO1 HB1
          go_wp2
          go_roundw
          case rel => exact ⟨i + 1, g5, cap5, by omega, rfl, by go_num, by rw [HSu.out, HX.out]; exact HO5.out, HB5.out⟩
          case measure => simp [intOf]; omega
    · obtain rfl : i = n := by omega
      have HO5 := hid hO.out
      have HB5 := hid hB.out
      clear hO hB hE
      go_wp2
      go_ret
      exact ⟨_, rfl, HO5.out, HB5.out⟩
set_option maxHeartbeats 1000000 in
theorem specFillOf_calls (d g : Int) (w : World) : Calls Try.prog 11 #[.int .i64 d, .int .i64 g] w fun e w' => ∃ u, e = .returned (.agg #[.int .i64 (flC d g), u]) ∧ OwI w.heap.size w' u (flL d g) ∧ Below w.heap.size w w' := by
  have HA := hid (l1In_calls d 1 4)
  have HB := hid (l12Gain_calls g)
  cases ha : inB 1 4 d
  · have ho : flO d g = false := by unfold flO pdB; rw [ha]; rfl
    have H : Hid (3 = flC d g ∧ [] = flL d g) := ⟨(if_neg (by rw [ho]; decide)).symm, (if_neg (by rw [ho]; decide)).symm⟩
    rw [ha] at HA
    clear ha ho HB
    go_enter Try.func11, Try.ntmps11
    go_wp2_with fail
    refine (HA.out _).mono ?_
    rintro e w' ⟨rfl, rfl⟩
    go_wp2
    exact bodyPost_ret (v := .agg #[.int .i64 3, .slice none 0 0]) (by simp [results, Try.results11, go_sem]) rfl ⟨_, by rw [← H.out.1], by rw [← H.out.2]; exact World.ownsRow_nil _ _ _ _, bmore (Below.refl _ _) _⟩
  · rw [ha] at HA
    cases hb : gnB g
    · have ho : flO d g = false := by unfold flO; rw [hb, Bool.and_false]
      have H : Hid (3 = flC d g ∧ [] = flL d g) := ⟨(if_neg (by rw [ho]; decide)).symm, (if_neg (by rw [ho]; decide)).symm⟩
      rw [hb] at HB
      clear ha hb ho
      go_enter Try.func11, Try.ntmps11
      go_wp2_with fail
      refine (HA.out _).mono ?_
      rintro e w' ⟨rfl, rfl⟩
      go_wp2_with fail
      refine (HB.out _).mono ?_
      rintro e w' ⟨rfl, rfl⟩
      go_wp2
      exact bodyPost_ret (v := .agg #[.int .i64 3, .slice none 0 0]) (by simp [results, Try.results11, go_sem]) rfl ⟨_, by rw [← H.out.1], by rw [← H.out.2]; exact World.ownsRow_nil _ _ _ _, bmore (Below.refl _ _) _⟩
    · have ho : flO d g = true := by unfold flO pdB; rw [ha, hb]; rfl
      have h1 := of_inB ha
      have h2 := of_inB hb
      have H : Hid (0 = flC d g ∧ mkL d.toNat (flE d.toNat g) = flL d g) := ⟨(if_pos ho).symm, (if_pos ho).symm⟩
      have HF := hid (fun W => l12Fill_calls d.toNat g W (by omega) (by omega) h2.1 h2.2)
      rw [show ((d.toNat : Nat) : Int) = d by omega] at HF
      rw [hb] at HB
      clear ha hb ho
      generalize mkL d.toNat (flE d.toNat g) = l at *
      go_enter Try.func11, Try.ntmps11
      go_wp2_with fail
      refine (HA.out _).mono ?_
      rintro e w' ⟨rfl, rfl⟩
      go_wp2_with fail
      refine (HB.out _).mono ?_
      rintro e w' ⟨rfl, rfl⟩
      go_wp2_with fail
      refine (HF.out _).mono ?_
      rintro e w2 ⟨u, rfl, hO, hB⟩
      obtain ⟨au, cu, hu, _⟩ := hO.sl
      subst hu
      obtain ⟨c0, c1, f0, f1⟩ := ((Blk.new w #[.int .i64 0, .slice none 0 0] 28).later hB).two
      have HB2 := hid (below_set2 (bthen (bmore (Below.refl w.heap.size w) _) hB) (.int .i64 0) (.slice au l.length cu))
      have hO2 : OwI (w.heap.size + 1) w2 (.slice au l.length cu) l := by simpa using hO
      have HO := hid (hO2.set2 (.int .i64 0) (.slice au l.length cu))
      clear hB HF hO hO2
      go_wp2
      exact bodyPost_ret (v := .agg #[.int .i64 0, .slice au l.length cu]) (by simp [results, Try.results11, go_sem, c0, c1]) rfl ⟨_, by rw [← H.out.1], by rw [← H.out.2]; exact HO.out, HB2.out⟩
end Go.Proofs.Ytkbkklhofffimaa.ShaS
