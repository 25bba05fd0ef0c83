/- OpenBytes of the model: the same code and the same bytes as the program's, at any list of bytes. -/
import Derived.Test.YtlljdehjlbmgcaaOpen
import Derived.Laws.StructEq
namespace Go.Proofs.Ytlljdehjlbmgcaa.OpenS
open Go.ChangeShapes Go.WideShapes Go.ChangeAt Go.RowKit Go.Proofs.Ytlljdehjlbmgcaa.Num Go.Proofs.Ytlljdehjlbmgcaa.Sli Go.Proofs.Ytlljdehjlbmgcaa.App Go.Proofs.Ytlljdehjlbmgcaa.Byt Go.Proofs.Ytlljdehjlbmgcaa.CrcM Go.Proofs.Ytlljdehjlbmgcaa.Crc Go.Proofs.Ytlljdehjlbmgcaa.Seal Go.Proofs.Ytlljdehjlbmgcaa.Open

/-- What is held may say more from an operation on. -/
theorem wpAnyH_more {P : Program} {md : Region.Mode} {ops : Array Oper} {Q : Exit → Act → World → Prop} {S S' : World → Prop} (hS : ∀ w, S' w → S w) :
    ∀ (fuel : Nat) (listed : Array Bool) (a : Act) (w : World), wpAnyH P md ops Q S' fuel listed a w → wpAnyH P md ops Q S fuel listed a w
  | 0, _, _, _, h => h
  | fuel + 1, _, _, _, h => ⟨h.1, fun i hi => wpOp_mono (fun a' w' h' => ⟨hS _ h'.1, wpAnyH_more hS fuel _ a' w' h'.2⟩) (h.2 i hi)⟩

theorem undB : Try.prog.underlying 5 = some (.int .u8) := by kernel_rfl
theorem undS : Try.prog.underlying 9 = some .string := by kernel_rfl
theorem strOf_nil : strOfNums [] = ByteArray.empty := rfl
theorem run_str {w : World} {v : Value} {xs : List Int} (h : Sl .u8 w v xs) : (convert 22 9 v).run Try.prog w = .ok (.string (strOfNums xs)) w := by
  obtain ⟨a, cap, rfl, hc⟩ := h
  by_cases hne : xs = []
  · subst hne
    cases a with
    | none => exact run_convert_bytes_nil w _ _ Try.underlying22 undB 0 cap _ undS
    | some ad =>
      show (convert 22 9 (.slice (some ad) 0 cap)).run Try.prog w = _
      rw [run_convert_bytes_string w _ _ _ _ 0 cap Try.underlying22 undB undS]
      rw [run_bytesToString w _ 0 cap [] (by simp [loadCells, loadCellsFrom])]
      rfl
  · obtain ⟨b, off, rfl, _, hcell⟩ := hc hne
    exact run_convert_bytes_arg w _ _ Try.underlying22 undB b off xs.length cap xs rfl hcell _ undS
theorem byte_inj {x y : Int} (hx : 0 ≤ x ∧ x ≤ 255) (hy : 0 ≤ y ∧ y ≤ 255) (h : UInt8.ofNat x.toNat = UInt8.ofNat y.toNat) : x = y := by
  have h1 := congrArg UInt8.toNat h
  simp at h1
  omega
theorem str_inj {xs ys : List Int} (hx : BytesL xs) (hy : BytesL ys) (h : strOfNums xs = strOfNums ys) : xs = ys := by
  have h1 : xs.map (fun n => UInt8.ofNat n.toNat) = ys.map (fun n => UInt8.ofNat n.toNat) := by
    have := congrArg (fun s : ByteArray => s.data.toList) h
    simpa [strOfNums_data] using this
  have hl : xs.length = ys.length := by have := congrArg List.length h1; simpa using this
  apply List.ext_getElem hl
  intro i h2 h3
  have h4 : (xs.map (fun n => UInt8.ofNat n.toNat))[i]'(by simpa using h2) = (ys.map (fun n => UInt8.ofNat n.toNat))[i]'(by simpa using h3) := by simp only [h1]
  simp only [List.getElem_map] at h4
  exact byte_inj (hx _ (List.getElem_mem h2)) (hy _ (List.getElem_mem h3)) h4
theorem ba_beq (a b : ByteArray) : (a == b) = decide (a = b) := by
  cases a with | mk x => cases b with | mk y =>
  show (x == y) = _
  by_cases h : x = y
  · subst h; simp
  · simp [h]
theorem str_eq (xs ys : List Int) (hx : BytesL xs) (hy : BytesL ys) : ((strOfNums xs).toList == (strOfNums ys).toList) = decide (xs = ys) := by
  rw [← beq_toListBytes, ba_beq]
  by_cases h : xs = ys
  · subst h; simp
  · rw [decide_eq_false h, decide_eq_false fun e => h (str_inj hx hy e)]

/-- Two lists of bytes are told alike just where they are. -/
theorem lwBytes_calls (v1 v2 : Value) (xs ys : List Int) (w : World) (h1 : Sl .u8 w v1 xs) (h2 : Sl .u8 w v2 ys) (hx : BytesL xs) (hy : BytesL ys) :
    Calls Try.prog 14 #[v1, v2] w fun e w' => e = .returned (.bool (decide (xs = ys))) ∧ w' = w := by
  have q1 := run_str h1
  have q2 := run_str h2
  have H := hid (str_eq xs ys hx hy)
  obtain ⟨a1, c1, rfl, _⟩ := h1
  obtain ⟨a2, c2, rfl, _⟩ := h2
  go_enter Try.func14, Try.ntmps14
  go_wp2
  go_ret
  exact ⟨ret_bool H.out, rfl⟩

set_option maxRecDepth 100000 in
set_option maxHeartbeats 2000000 in
theorem specOpen_yes (b off cap n : Nat) (xs : List Int) (w : World) (hfit : n ≤ cap) (hn : n = xs.length) (hb : b < w.heap.size) (hx : BytesL xs) (h2 : 2 ≤ n) (h160 : n ≤ 160)
    (hcell : ∀ i, i < xs.length → w.cell? ⟨b, off + i, none⟩ = some (.int .u8 (xs.getD i 0))) :
    Calls Try.prog 13 #[.slice (some ⟨b, off, none⟩) n cap] w fun e w' => ∃ v', e = .returned (.agg #[.int .i64 (opC xs), v']) ∧ OwB w.heap.size w' v' (opL xs) ∧ Below w.heap.size w w' := by
  have Hsl : Hid (Sl .u8 w (.slice (some ⟨b, off, none⟩) n cap) xs) := ⟨_, _, by rw [hn], fun _ => ⟨b, off, rfl, hb, hcell⟩⟩
  obtain ⟨m, rfl⟩ : ∃ m, n = m + 2 := ⟨n - 2, by omega⟩
  have HS : Hid (Sl .u8 w (.slice (some ⟨b, off, none⟩) m cap) (cut2 xs)) := sl_cut (n := m) (by have := Hsl.out; rw [hn] at this; exact this) (xs.length - 2) (by omega) (by omega)
  have Hl : Hid (m + 2 = xs.length) := hn
  have hm0 : (m : Int) ≤ 158 := by omega
  have hmc : (m : Int) + 2 ≤ cap := by omega
  clear hcell hn
  have hx2 : BytesL (cut2 xs) := take_bd hx _
  have hneq := str_eq (sealL (cut2 xs)) xs (sealL_bd hx2) hx
  have hmle : m ≤ cap := by omega
  have hwm : IntKind.i64.wrap (m : Int) = m := wrapk_of (by omega) (by omega)
  have hlen2 : (cut2 xs).length = m := by rw [cut2_len]; have := Hl.out; omega
  have Hlen2 := hid hlen2
  clear hlen2
  have hW : Below (w.heap.size + 1) (w.alloc (.cells #[.int .i64 0, .slice none 0 0] 26)) (w.alloc (.cells #[.int .i64 0, .slice none 0 0] 26)).drew := (Below.refl _ _).drew
  have HA := hid (bmore (Below.refl _ w) (.cells #[.int .i64 0, .slice none 0 0] 26))
  cases hok : okB xs
  · obtain ⟨k1, k2⟩ := op_no (xs := xs) (by have := Hl.out; omega) (by have := Hl.out; omega) hok
    rw [k1, k2]
    rw [show decide (sealL (cut2 xs) = xs) = false from hok] at hneq
    clear k1 k2 hok
    go_enter Try.func13, Try.ntmps13
    go_wp2
    refine wp_region_noPanic ?_
    refine wp_region_held_drew (S := (Below (w.heap.size + 1) (w.alloc (.cells #[.int .i64 0, .slice none 0 0] 26)))) (by kernel_rfl) ?_ (fun hHeld => ?_)
    · assumption
    (refine wpAnyH_take (i := 0) (v := ?_) rfl (by kernel_rfl) (by kernel_rfl) (by kernel_rfl) (fun _ _ _ h => h) (Or.inl ⟨by rfl, ?_⟩) hHeld ?_; rotate_left; (intro w hSw; have hcv := run_str (Hsl.out.later (HA.out.trans (hSw.mono (by simp)))); (go_simp <;> with_reducible rfl)); simp only [List.getElem_toArray, List.getElem_cons_zero, Act.put, List.setIfInBounds_toArray, List.set_cons_zero, List.set_cons_succ])
    (refine wpAnyH_take (i := 1) (v := ?_) rfl (by kernel_rfl) (by kernel_rfl) (by kernel_rfl) (fun _ _ _ h => h) (Or.inl ⟨by rfl, ?_⟩) hHeld ?_; rotate_left; (intro w hSw; have hcv := run_str (Hsl.out.later (HA.out.trans (hSw.mono (by simp)))); (go_simp <;> with_reducible rfl)); simp only [List.getElem_toArray, List.getElem_cons_zero, List.getElem_cons_succ, Act.put, List.setIfInBounds_toArray, List.set_cons_zero, List.set_cons_succ])
    (refine wpAnyH_take (i := 2) (v := ?_) rfl (by kernel_rfl) (by kernel_rfl) (by kernel_rfl) (fun _ _ _ h => h) (Or.inl ⟨by rfl, ?_⟩) hHeld ?_; rotate_left; (intro w hSw; have hcv := run_str (Hsl.out.later (HA.out.trans (hSw.mono (by simp)))); (go_simp <;> with_reducible rfl)); simp only [List.getElem_toArray, List.getElem_cons_zero, List.getElem_cons_succ, Act.put, List.setIfInBounds_toArray, List.set_cons_zero, List.set_cons_succ])
    (refine wpAnyH_take (i := 3) (v := ?_) rfl (by kernel_rfl) (by kernel_rfl) (by kernel_rfl) (fun _ _ _ h => h) (Or.inl ⟨by rfl, ?_⟩) hHeld ?_; rotate_left; (intro w hSw; have hcv := run_str (Hsl.out.later (HA.out.trans (hSw.mono (by simp)))); (go_simp <;> with_reducible rfl)); simp only [List.getElem_toArray, List.getElem_cons_zero, List.getElem_cons_succ, Act.put, List.setIfInBounds_toArray, List.set_cons_zero, List.set_cons_succ])
    (refine wpAnyH_take (i := 6) (v := ?_) rfl (by kernel_rfl) (by kernel_rfl) (by kernel_rfl) (fun _ _ _ h => h) (Or.inl ⟨by rfl, ?_⟩) hHeld ?_; rotate_left; (intro w hSw; have hcv := run_str (Hsl.out.later (HA.out.trans (hSw.mono (by simp)))); (go_simp <;> with_reducible rfl)); simp only [List.getElem_toArray, List.getElem_cons_zero, List.getElem_cons_succ, Act.put, List.setIfInBounds_toArray, List.set_cons_zero, List.set_cons_succ])
    (refine wpAnyH_take (i := 7) (v := ?_) rfl (by kernel_rfl) (by kernel_rfl) (by kernel_rfl) (fun _ _ _ h => h) (Or.inl ⟨by rfl, ?_⟩) hHeld ?_; rotate_left; (intro w hSw; have hcv := run_str (Hsl.out.later (HA.out.trans (hSw.mono (by simp)))); (go_simp <;> with_reducible rfl)); simp only [List.getElem_toArray, List.getElem_cons_zero, List.getElem_cons_succ, Act.put, List.setIfInBounds_toArray, List.set_cons_zero, List.set_cons_succ])
    (refine wpAnyH_ready (rs := [4]) (by kernel_rfl) (by simp) ?_; refine AllReadyH.cons rfl (fun K hK => ?_) AllReadyH.nil; go_simp; (refine (l2Seal_calls _ (cut2 xs) _ (HS.out.later (HA.out.trans (hHeld.mono (by simp)))) hx2 (by have := Hlen2.out; omega)).mono ?_; rintro e w' ⟨g1, cap1, rfl, ho1, hb1⟩; have hK' := hHeld.trans (hb1.mono (by simp))); refine hK.out _ _ ?_ (fun hHeld => ?_); (assumption); clear hK K; try simp only [List.getElem_toArray, List.getElem_cons_zero, List.getElem_cons_succ, Act.put, List.setIfInBounds_toArray, List.set_cons_zero, List.set_cons_succ])
    refine wpAnyH_more (S' := fun W => Below (w.heap.size + 1) (w.alloc (.cells #[.int .i64 0, .slice none 0 0] 26)) W ∧ Sl .u8 W (.slice (some ⟨g1, 0, none⟩) ((cut2 xs).length + 2) cap1) (sealL (cut2 xs))) (fun _ h => h.1) _ _ _ _ ?_
    replace hHeld := And.intro hHeld ho1.sl
    (refine wpAnyH_take (i := 5) (v := ?_) rfl (by kernel_rfl) (by kernel_rfl) (by kernel_rfl) (fun _ _ _ h => h) (Or.inl ⟨by rfl, ?_⟩) hHeld ?_; rotate_left; (intro w hSw; have hcv := run_str hSw.2; (go_simp <;> with_reducible rfl)); simp only [List.getElem_toArray, List.getElem_cons_zero, List.getElem_cons_succ, Act.put, List.setIfInBounds_toArray, List.set_cons_zero, List.set_cons_succ])
    (refine wpAnyH_take (i := 8) (v := ?_) rfl (by kernel_rfl) (by kernel_rfl) (by kernel_rfl) (fun _ _ _ h => h) (Or.inl ⟨by rfl, ?_⟩) hHeld ?_; rotate_left; (intro w hSw; have hcv := run_str hSw.2; (go_simp <;> with_reducible rfl)); simp only [List.getElem_toArray, List.getElem_cons_zero, List.getElem_cons_succ, Act.put, List.setIfInBounds_toArray, List.set_cons_zero, List.set_cons_succ])
    refine wpAnyH_done (by kernel_rfl) ?_ _
    refine NoPanic.normal ?_
    have hB := HA.out.trans (hHeld.1.mono (by simp))
    have r0 := hHeld.1.cell (p := ⟨w.heap.size, 0, none⟩) (by simp)
    have r1 := hHeld.1.cell (p := ⟨w.heap.size, 1, none⟩) (by simp)
    have f0 := hHeld.1.frozen (p := ⟨w.heap.size, 0, none⟩) (by simp)
    have f1 := hHeld.1.frozen (p := ⟨w.heap.size, 1, none⟩) (by simp)
    have hz : w.heap.size < w'.heap.size := by have := hHeld.1.size; simp at this; omega
    have HB := hid hB
    have Hz := hid hz
    clear hK' hHeld ho1 hb1 hB hW hz hneq
    go_wp2
    exact bodyPost_ret (v := .agg #[.int .i64 10, .slice none 0 0]) (by simp [results, Try.results13, go_sem, r0, r1]) rfl ⟨_, rfl, World.ownsRow_nil _ _ _ _, below_set2 HB.out _ _⟩
  · obtain ⟨k1, k2⟩ := op_yes (xs := xs) (by have := Hl.out; omega) (by have := Hl.out; omega) hok
    rw [k1, k2]
    rw [show decide (sealL (cut2 xs) = xs) = true from hok] at hneq
    clear k1 k2 hok
    go_enter Try.func13, Try.ntmps13
    go_wp2
    refine wp_region_noPanic ?_
    refine wp_region_held_drew (S := (Below (w.heap.size + 1) (w.alloc (.cells #[.int .i64 0, .slice none 0 0] 26)))) (by kernel_rfl) ?_ (fun hHeld => ?_)
    · assumption
    (refine wpAnyH_take (i := 0) (v := ?_) rfl (by kernel_rfl) (by kernel_rfl) (by kernel_rfl) (fun _ _ _ h => h) (Or.inl ⟨by rfl, ?_⟩) hHeld ?_; rotate_left; (intro w hSw; have hcv := run_str (Hsl.out.later (HA.out.trans (hSw.mono (by simp)))); (go_simp <;> with_reducible rfl)); simp only [List.getElem_toArray, List.getElem_cons_zero, Act.put, List.setIfInBounds_toArray, List.set_cons_zero, List.set_cons_succ])
    (refine wpAnyH_take (i := 1) (v := ?_) rfl (by kernel_rfl) (by kernel_rfl) (by kernel_rfl) (fun _ _ _ h => h) (Or.inl ⟨by rfl, ?_⟩) hHeld ?_; rotate_left; (intro w hSw; have hcv := run_str (Hsl.out.later (HA.out.trans (hSw.mono (by simp)))); (go_simp <;> with_reducible rfl)); simp only [List.getElem_toArray, List.getElem_cons_zero, List.getElem_cons_succ, Act.put, List.setIfInBounds_toArray, List.set_cons_zero, List.set_cons_succ])
    (refine wpAnyH_take (i := 2) (v := ?_) rfl (by kernel_rfl) (by kernel_rfl) (by kernel_rfl) (fun _ _ _ h => h) (Or.inl ⟨by rfl, ?_⟩) hHeld ?_; rotate_left; (intro w hSw; have hcv := run_str (Hsl.out.later (HA.out.trans (hSw.mono (by simp)))); (go_simp <;> with_reducible rfl)); simp only [List.getElem_toArray, List.getElem_cons_zero, List.getElem_cons_succ, Act.put, List.setIfInBounds_toArray, List.set_cons_zero, List.set_cons_succ])
    (refine wpAnyH_take (i := 3) (v := ?_) rfl (by kernel_rfl) (by kernel_rfl) (by kernel_rfl) (fun _ _ _ h => h) (Or.inl ⟨by rfl, ?_⟩) hHeld ?_; rotate_left; (intro w hSw; have hcv := run_str (Hsl.out.later (HA.out.trans (hSw.mono (by simp)))); (go_simp <;> with_reducible rfl)); simp only [List.getElem_toArray, List.getElem_cons_zero, List.getElem_cons_succ, Act.put, List.setIfInBounds_toArray, List.set_cons_zero, List.set_cons_succ])
    (refine wpAnyH_take (i := 6) (v := ?_) rfl (by kernel_rfl) (by kernel_rfl) (by kernel_rfl) (fun _ _ _ h => h) (Or.inl ⟨by rfl, ?_⟩) hHeld ?_; rotate_left; (intro w hSw; have hcv := run_str (Hsl.out.later (HA.out.trans (hSw.mono (by simp)))); (go_simp <;> with_reducible rfl)); simp only [List.getElem_toArray, List.getElem_cons_zero, List.getElem_cons_succ, Act.put, List.setIfInBounds_toArray, List.set_cons_zero, List.set_cons_succ])
    (refine wpAnyH_take (i := 7) (v := ?_) rfl (by kernel_rfl) (by kernel_rfl) (by kernel_rfl) (fun _ _ _ h => h) (Or.inl ⟨by rfl, ?_⟩) hHeld ?_; rotate_left; (intro w hSw; have hcv := run_str (Hsl.out.later (HA.out.trans (hSw.mono (by simp)))); (go_simp <;> with_reducible rfl)); simp only [List.getElem_toArray, List.getElem_cons_zero, List.getElem_cons_succ, Act.put, List.setIfInBounds_toArray, List.set_cons_zero, List.set_cons_succ])
    (refine wpAnyH_ready (rs := [4]) (by kernel_rfl) (by simp) ?_; refine AllReadyH.cons rfl (fun K hK => ?_) AllReadyH.nil; go_simp; (refine (l2Seal_calls _ (cut2 xs) _ (HS.out.later (HA.out.trans (hHeld.mono (by simp)))) hx2 (by have := Hlen2.out; omega)).mono ?_; rintro e w' ⟨g1, cap1, rfl, ho1, hb1⟩; have hK' := hHeld.trans (hb1.mono (by simp))); refine hK.out _ _ ?_ (fun hHeld => ?_); (assumption); clear hK K; try simp only [List.getElem_toArray, List.getElem_cons_zero, List.getElem_cons_succ, Act.put, List.setIfInBounds_toArray, List.set_cons_zero, List.set_cons_succ])
    refine wpAnyH_more (S' := fun W => Below (w.heap.size + 1) (w.alloc (.cells #[.int .i64 0, .slice none 0 0] 26)) W ∧ Sl .u8 W (.slice (some ⟨g1, 0, none⟩) ((cut2 xs).length + 2) cap1) (sealL (cut2 xs))) (fun _ h => h.1) _ _ _ _ ?_
    replace hHeld := And.intro hHeld ho1.sl
    (refine wpAnyH_take (i := 5) (v := ?_) rfl (by kernel_rfl) (by kernel_rfl) (by kernel_rfl) (fun _ _ _ h => h) (Or.inl ⟨by rfl, ?_⟩) hHeld ?_; rotate_left; (intro w hSw; have hcv := run_str hSw.2; (go_simp <;> with_reducible rfl)); simp only [List.getElem_toArray, List.getElem_cons_zero, List.getElem_cons_succ, Act.put, List.setIfInBounds_toArray, List.set_cons_zero, List.set_cons_succ])
    (refine wpAnyH_take (i := 8) (v := ?_) rfl (by kernel_rfl) (by kernel_rfl) (by kernel_rfl) (fun _ _ _ h => h) (Or.inl ⟨by rfl, ?_⟩) hHeld ?_; rotate_left; (intro w hSw; have hcv := run_str hSw.2; (go_simp <;> with_reducible rfl)); simp only [List.getElem_toArray, List.getElem_cons_zero, List.getElem_cons_succ, Act.put, List.setIfInBounds_toArray, List.set_cons_zero, List.set_cons_succ])
    refine wpAnyH_done (by kernel_rfl) ?_ _
    refine NoPanic.normal ?_
    have hB := HA.out.trans (hHeld.1.mono (by simp))
    have r0 := hHeld.1.cell (p := ⟨w.heap.size, 0, none⟩) (by simp)
    have r1 := hHeld.1.cell (p := ⟨w.heap.size, 1, none⟩) (by simp)
    have f0 := hHeld.1.frozen (p := ⟨w.heap.size, 0, none⟩) (by simp)
    have f1 := hHeld.1.frozen (p := ⟨w.heap.size, 1, none⟩) (by simp)
    have hz : w.heap.size < w'.heap.size := by have := hHeld.1.size; simp at this; omega
    have HB := hid hB
    have Hz := hid hz
    clear hK' hHeld ho1 hb1 hB hW hz hneq
    go_wp2_with fail
    refine (l1Copy_calls _ (cut2 xs) _ (HS.out.later HB.out) (by have := Hlen2.out; omega)).mono ?_
    rintro e w2 ⟨g2, cap2, rfl, ho, hb2⟩
    have q0 := (hb2.cell (p := ⟨w.heap.size, 0, none⟩) Hz.out).trans r0
    have q1 := (hb2.cell (p := ⟨w.heap.size, 1, none⟩) Hz.out).trans r1
    have g0 := (hb2.frozen (p := ⟨w.heap.size, 0, none⟩) Hz.out).trans f0
    have g1 := (hb2.frozen (p := ⟨w.heap.size, 1, none⟩) Hz.out).trans f1
    have HO := hid (ho.mono (base' := w.heap.size + 1) Hz.out)
    have HB2 := hid (HB.out.trans (hb2.mono (Nat.le_of_lt Hz.out)))
    clear ho hb2 r0 r1 f0 f1
    go_wp2
    exact bodyPost_ret (v := .agg #[.int .i64 0, .slice (some ⟨g2, 0, none⟩) (cut2 xs).length cap2]) (by simp [results, Try.results13, go_sem, q0, q1]) rfl ⟨_, rfl, HO.out.set2 _ _, below_set2 HB2.out _ _⟩

theorem specOpen_calls (v : Value) (xs : List Int) (w : World) (hf : Fits v) (h : Sl .u8 w v xs) (hx : BytesL xs) :
    Calls Try.prog 13 #[v] w fun e w' => ∃ v', e = .returned (.agg #[.int .i64 (opC xs), v']) ∧ OwB w.heap.size w' v' (opL xs) ∧ Below w.heap.size w w' := by
  obtain ⟨a, cap, rfl, hc⟩ := h
  by_cases h1 : xs.length < 2
  · have h' : (xs.length : Int) < 2 := by omega
    obtain ⟨k1, k2⟩ := op_many (Or.inl h1)
    rw [k1, k2]
    clear k1 k2 hc
    go_enter Try.func13, Try.ntmps13
    go_wp2
    exact bodyPost_ret (v := .agg #[.int .i64 2, .slice none 0 0]) (by simp [results, Try.results13, go_sem]) rfl ⟨_, rfl, World.ownsRow_nil _ _ _ _, (Below.refl _ _).alloc (Nat.le_refl _) _⟩
  · by_cases h2 : 160 < xs.length
    · have h' : (160 : Int) < xs.length := by omega
      have h'' : ¬ (xs.length : Int) < 2 := by omega
      obtain ⟨k1, k2⟩ := op_many (Or.inr h2)
      rw [k1, k2]
      clear k1 k2 hc
      go_enter Try.func13, Try.ntmps13
      go_wp2
      exact bodyPost_ret (v := .agg #[.int .i64 2, .slice none 0 0]) (by simp [results, Try.results13, go_sem]) rfl ⟨_, rfl, World.ownsRow_nil _ _ _ _, (Below.refl _ _).alloc (Nat.le_refl _) _⟩
    · obtain ⟨b, off, rfl, hb, hcell⟩ := hc (by intro e; rw [e] at h1; simp at h1)
      exact specOpen_yes b off cap xs.length xs w hf rfl hb hx (by omega) (by omega) hcell
end Go.Proofs.Ytlljdehjlbmgcaa.OpenS
