/- slices.Clone and slices.Concat (of two lists) at lists of numbers, and the two parts of a list: what they tell, in which memory. Conditions: lists that are not empty, of at most 100000 numbers together. -/
import Derived.Test.YtbakmphopgkpmaaDoorLaI
import Derived.Lib.AppendZeros
import Derived.Lib.SliceRun
import Derived.Deep.RegionHeld3
namespace Go.Proofs.YtbakmphopgkpmaaDoor.LbI
open Go.ChangeShapes Go.WideShapes Go.ChangeAt Go.RowKit Go.Proofs.YtbakmphopgkpmaaDoor.Num Go.Proofs.YtbakmphopgkpmaaDoor.Sli Go.Proofs.YtbakmphopgkpmaaDoor.App Go.Proofs.YtbakmphopgkpmaaDoor.Samp Go.Proofs.YtbakmphopgkpmaaDoor.Blk Go.Proofs.YtbakmphopgkpmaaDoor.LapM Go.Proofs.YtbakmphopgkpmaaDoor.IntL Go.Proofs.YtbakmphopgkpmaaDoor.IntA Go.Proofs.YtbakmphopgkpmaaDoor.LaI

set_option maxRecDepth 100000 in
theorem clone_calls (v : Value) (l : List Int) (w : World) (h : Sl .i64 w v l) (hne : l ≠ []) (hm : l.length ≤ 1048576) :
    Calls Tryd.prog 117 #[v] w fun e w' => ∃ g cap, e = .returned (.slice (some ⟨g, 0, none⟩) l.length cap) ∧ OwI w.heap.size w' (.slice (some ⟨g, 0, none⟩) l.length cap) l ∧ Below w.heap.size w w' := by
  obtain ⟨i0, hi, hz0, hz1, hz2⟩ := info_parts infoI
  have H := hid h
  obtain ⟨a, cap, rfl, hc⟩ := h
  obtain ⟨b, off, rfl, _⟩ := hc hne
  clear hc
  have qn : ∀ W, (binOp .eql 30 (.slice (some ⟨b, off, none⟩) l.length cap) (.slice none 0 0)).run Tryd.prog W = .ok (.bool false) W := fun W => Lib.run_eql_slice_nil W _ _ _ _ _ _ _ Tryd.underlying30
  go_enter Tryd.func117, Tryd.ntmps117
  go_wp2_with (at_builtin; refine wpList_append_sl _ rfl _ _ 30 rfl w.heap.size 2 i0 .i64 0 8 Tryd.underlying30 hi hz0 hz1 hz2 (by decide) w.heap.size 0 0 [] rfl rfl (ow_new _ _ _ w (Nat.le_refl _)) _ l rfl (H.out.later (bmore (Below.refl _ _) _)) ?c1 ?c2 ?_)
  case c1 => simp; omega
  case c2 => simp
  intro g cap' w' ho hg hlt
  have hb := (bmore (Below.refl _ w) (.cells #[] 2)).trans (below_of_grown hg (by simp) (fun j e => by cases e; exact Nat.le_refl _))
  have HO := hid ho
  have HB := hid hb
  clear ho hb hg
  go_wp2
  go_ret
  exact ⟨_, _, rfl, HO.out, HB.out⟩
set_option maxRecDepth 100000 in
/-- Room for n numbers, onto nil. -/
theorem grow_calls (n : Nat) (w : World) (h1 : 1 ≤ n) (hm : n ≤ 100000) :
    Calls Tryd.prog 127 #[.slice none 0 0, .int .i64 (n : Int)] w fun e w' => ∃ cap, e = .returned (.slice (some ⟨w.heap.size, 0, none⟩) 0 cap) ∧ OwI w.heap.size w' (.slice (some ⟨w.heap.size, 0, none⟩) 0 cap) [] ∧ Below w.heap.size w w' := by
  obtain ⟨i0, hi, hz0, hz1, hz2⟩ := info_parts infoI
  have hge := grownCap_ge w n 0 2
  have hle := grownCap_le_maxLen w n 0 2 (by unfold maxLen; omega)
  have hr := fun ty => Lib.run_append_nil_zeros (P := Tryd.prog) w 30 3 ty 2 i0 (.int .i64 0) .i64 .i64 Tryd.underlying30 Tryd.underlying3 hi hz0 n (by omega) (by rw [hz1]; decide) (by omega) (by rw [hz2]; omega)
  have hsz : (Builtin.zeroCells (Value.int .i64 0).cells n ++ Builtin.zeroCells (Value.int .i64 0).cells (grownCap w n 0 2 - n)).size = grownCap w n 0 2 * 1 := by
    rw [Array.size_append, size_zeroCells, size_zeroCells]
    show n * 1 + (grownCap w n 0 2 - n) * 1 = _
    omega
  have HO := hid (World.ownsRow_made (e := 2) (base := w.heap.size) w.drew (Builtin.zeroCells (Value.int .i64 0).cells n ++ Builtin.zeroCells (Value.int .i64 0).cells (grownCap w n 0 2 - n)) (grownCap w n 0 2) (Nat.le_refl _) hle hsz)
  have HB := hid (bmore (Below.refl _ w).drew (.cells (Builtin.zeroCells (Value.int .i64 0).cells n ++ Builtin.zeroCells (Value.int .i64 0).cells (grownCap w n 0 2 - n)) 2))
  clear hsz hle
  generalize grownCap w n 0 2 = cap at *
  generalize Builtin.zeroCells (Value.int .i64 0).cells n ++ Builtin.zeroCells (Value.int .i64 0).cells (cap - n) = cs at *
  have hI : (1 : Int) ≤ n := by omega
  have hcI : (1 : Int) ≤ cap := by omega
  go_enter Tryd.func127, Tryd.ntmps127
  go_wp2_with (at_builtin; refine Lib.wpList_append_run _ rfl _ _ _ _ rfl _ _ rfl rfl _ _ (hr _) ?_)
  go_ret
  exact ⟨_, rfl, HO.out, HB.out⟩
set_option maxRecDepth 100000 in
set_option maxHeartbeats 2000000 in
theorem concat_calls (g : Nat) (v1 v2 : Value) (x1 x2 : List Int) (w : World) (hB : Blk w g #[v1, v2] 30) (h1 : Sl .i64 w v1 x1) (h2 : Sl .i64 w v2 x2) (n1 : x1 ≠ []) (n2 : x2 ≠ []) (hm : x1.length + x2.length ≤ 100000) :
    Calls Tryd.prog 118 #[.slice (some ⟨g, 0, none⟩) 2 2] w fun e w' => ∃ g' cap, e = .returned (.slice (some ⟨g', 0, none⟩) (x1.length + x2.length : Nat) cap) ∧ OwI w.heap.size w' (.slice (some ⟨g', 0, none⟩) (x1.length + x2.length : Nat) cap) (x1 ++ x2) ∧ Below w.heap.size w w' := by
  have hp1 : 1 ≤ x1.length := by cases x1 with | nil => exact absurd rfl n1 | cons _ _ => simp
  have HG := hid (fun W => grow_calls (x1.length + x2.length) W (by omega) hm)
  have H1 := hid h1
  have H2 := hid h2
  have HB := hid hB
  obtain ⟨a1, c1, rfl, -⟩ := h1
  obtain ⟨a2, c2, rfl, -⟩ := h2
  clear hB
  obtain ⟨b0, b1, _, _⟩ := HB.out.two
  have hpI : (x1.length : Int) + (x2.length : Int) ≤ 100000 := by omega
  go_enter Tryd.func118, Tryd.ntmps118
  go_wp2
  go_loop [3, 11] (fun s i => (s = .int .i64 0 ∧ i = .int .i64 0) ∨ (s = .int .i64 (x1.length : Int) ∧ i = .int .i64 1) ∨ (s = .int .i64 ((x1.length + x2.length : Nat) : Int) ∧ i = .int .i64 2)) (fun _ i => 2 - (intOf i).toNat)
  case atStart => exact .inl ⟨rfl, rfl⟩
  case round =>
    rcases hrel with ⟨rfl, rfl⟩ | ⟨rfl, rfl⟩ | ⟨rfl, rfl⟩
    · go_wp2
      go_round
      case rel => exact .inr (.inl ⟨by go_num, rfl⟩)
      case measure => simp [intOf]
    · go_wp2
      go_round
      case rel => exact .inr (.inr ⟨by go_num, rfl⟩)
      case measure => simp [intOf]
    · go_wp2_with fail
      refine (HG.out _).mono ?_
      rintro e w1 ⟨cap1, rfl, ho1, hb1⟩
      have HO1 := hid ho1
      have HB1 := hid hb1
      clear ho1 hb1 HG b0 b1
      generalize hg0 : w.heap.size = g0 at HO1 ⊢
      go_wp2_with fail
      go_loopw [6, 27] (fun v i wr => (v = .slice (some ⟨g0, 0, none⟩) 0 cap1 ∧ i = .int .i64 0 ∧ wr = w1) ∨ (∃ g' c' : Nat, v = .slice (some ⟨g', 0, none⟩) x1.length c' ∧ i = .int .i64 1 ∧ Hid (OwI g0 wr (.slice (some ⟨g', 0, none⟩) x1.length c') x1) ∧ Hid (Below w.heap.size w wr)) ∨ (∃ g' c' : Nat, v = .slice (some ⟨g', 0, none⟩) (x1.length + x2.length : Nat) c' ∧ i = .int .i64 2 ∧ Hid (OwI g0 wr (.slice (some ⟨g', 0, none⟩) (x1.length + x2.length : Nat) c') (x1 ++ x2)) ∧ Hid (Below w.heap.size w wr))) (fun _ i _ => 2 - (intOf i).toNat)
      case atStart => exact .inl ⟨rfl, rfl, rfl⟩
      case round =>
        rcases hrel with ⟨rfl, rfl, rfl⟩ | ⟨g', c', rfl, rfl, HO, HBl⟩ | ⟨g', c', rfl, rfl, HO, HBl⟩
        · have hs1 := H1.out.later HB1.out
          have hz := HB1.out.size
          obtain ⟨b0, b1, _, _⟩ := (HB.out.later HB1.out).two
          go_wp2_with (at_builtin; refine wpList_append_ints _ rfl _ _ rfl g0 _ [] rfl HO1.out _ x1 rfl hs1 n1 ?c1 ?c2 ?_)
          case c1 => simp; omega
          case c2 => omega
          intro g2 c2' n2 w2 hn2 ho2 hg2 _
          obtain rfl : n2 = x1.length := by simpa using hn2
          have HO2 := hid ho2
          have HB2 := hid (HB1.out.trans (below_of_grown hg2 hz (fun j e => by simp [Value.ownBlock] at e; omega)))
          clear ho2 hg2 hs1 hz b0 b1
          go_wp2
          go_roundw
          case rel => exact .inr (.inl ⟨_, _, rfl, rfl, HO2, HB2⟩)
          case measure => simp [intOf]
        · have hs2 := H2.out.later HBl.out
          have hz := HBl.out.size
          have hgg := HO.out.block g' rfl
          obtain ⟨b0, b1, _, _⟩ := (HB.out.later HBl.out).two
          go_wp2_with (at_builtin; refine wpList_append_ints _ rfl _ _ rfl g0 _ x1 rfl HO.out _ x2 rfl hs2 n2 ?c1 ?c2 ?_)
          case c1 => omega
          case c2 => omega
          intro g2 c2' n2' w2 hn2 ho2 hg2 _
          obtain rfl : n2' = x1.length + x2.length := by simpa using hn2
          have HO2 := hid ho2
          have HB2 := hid (HBl.out.trans (below_of_grown hg2 hz (fun j e => by simp [Value.ownBlock] at e; omega)))
          clear ho2 hg2 hs2 hz b0 b1
          go_wp2
          go_roundw
          case rel => exact .inr (.inr ⟨_, _, rfl, rfl, HO2, HB2⟩)
          case measure => simp [intOf]
        · go_wp2
          go_ret
          exact ⟨_, _, rfl, by subst hg0; exact HO.out, HBl.out⟩
theorem parts_calls (s : Int) (b off n c : Nat) (w : World) (hz : szF s = 0) (hn : n = 2 * hN s) (hc : n ≤ c) :
    Calls Tryd.prog 112 #[.int .i64 s, .slice (some ⟨b, off, none⟩) n c] w fun e w' => e = .returned (.tuple #[.slice (some ⟨b, off, none⟩) (hN s : Nat) c, .slice (some ⟨b, off + hN s, none⟩) (hN s : Nat) (c - hN s : Nat)]) ∧ Below w.heap.size w w' := by
  have HM := hid (fun W => middle_calls s W hz)
  have hm8 : hN s ≤ 8 ∧ 2 ≤ hN s := by obtain ⟨_, _, _, h2, h, _⟩ := sz_nat hz; exact ⟨h, h2⟩
  clear hz
  generalize hN s = m at *
  have hnm : n - m = m := by omega
  have hmI : (m : Int) ≤ (c : Int) := by omega
  have hmI2 : (m : Int) ≤ (n : Int) := by omega
  have hnI : (n : Int) ≤ (c : Int) := by omega
  have hcm : ¬ c = m := by omega
  clear hn
  have hL0 : Below w.heap.size w w.drew := (Below.refl _ w).drew
  go_enter Tryd.func112, Tryd.ntmps112
  go_wp2_with fail
  refine wp_region_noPanic ?_
  refine wp_region_held_drew (S := fun W => Below w.heap.size w W) (by kernel_rfl) ?_ (fun hHeld => ?_)
  · assumption
  (refine wpAnyH_take (i := 0) (v := ?_) rfl (by kernel_rfl) (by kernel_rfl) (by kernel_rfl) (fun _ _ _ h => h) (Or.inl ⟨by rfl, ?_⟩) hHeld ?_; rotate_left; (intro w hSw; skip; (go_simp <;> with_reducible rfl)); simp only [List.getElem_toArray, List.getElem_cons_zero, Act.put, List.setIfInBounds_toArray, List.set_cons_zero, List.set_cons_succ])
  (refine wpAnyH_take (i := 1) (v := ?_) rfl (by kernel_rfl) (by kernel_rfl) (by kernel_rfl) (fun _ _ _ h => h) (Or.inl ⟨by rfl, ?_⟩) hHeld ?_; rotate_left; (intro w hSw; skip; (go_simp <;> with_reducible rfl)); simp only [List.getElem_toArray, List.getElem_cons_zero, List.getElem_cons_succ, Act.put, List.setIfInBounds_toArray, List.set_cons_zero, List.set_cons_succ])
  (refine wpAnyH_take (i := 4) (v := ?_) rfl (by kernel_rfl) (by kernel_rfl) (by kernel_rfl) (fun _ _ _ h => h) (Or.inl ⟨by rfl, ?_⟩) hHeld ?_; rotate_left; (intro w hSw; skip; (go_simp <;> with_reducible rfl)); simp only [List.getElem_toArray, List.getElem_cons_zero, List.getElem_cons_succ, Act.put, List.setIfInBounds_toArray, List.set_cons_zero, List.set_cons_succ])
  (refine wpAnyH_take (i := 5) (v := ?_) rfl (by kernel_rfl) (by kernel_rfl) (by kernel_rfl) (fun _ _ _ h => h) (Or.inl ⟨by rfl, ?_⟩) hHeld ?_; rotate_left; (intro w hSw; skip; (go_simp <;> with_reducible rfl)); simp only [List.getElem_toArray, List.getElem_cons_zero, List.getElem_cons_succ, Act.put, List.setIfInBounds_toArray, List.set_cons_zero, List.set_cons_succ])
  (refine wpAnyH_ready (rs := [2]) (by kernel_rfl) (by simp) ?_; refine AllReadyH.cons rfl (fun K hK => ?_) AllReadyH.nil; go_simp; (refine (HM.out _).mono ?_; rintro e w9 ⟨rfl, rfl⟩); refine hK.out _ _ ?_ (fun hHeld => ?_); (assumption); clear hK K; try dsimp only)
  (refine wpAnyH_take (i := 3) (v := ?_) rfl (by kernel_rfl) (by kernel_rfl) (by kernel_rfl) (fun _ _ _ h => h) (Or.inl ⟨by rfl, ?_⟩) hHeld ?_; rotate_left; (intro w hSw; skip; (go_simp <;> with_reducible rfl)); simp only [List.getElem_toArray, List.getElem_cons_zero, List.getElem_cons_succ, Act.put, List.setIfInBounds_toArray, List.set_cons_zero, List.set_cons_succ])
  (refine wpAnyH_ready (rs := [6]) (by kernel_rfl) (by simp) ?_; refine AllReadyH.cons rfl (fun K hK => ?_) AllReadyH.nil; go_simp; (refine (HM.out _).mono ?_; rintro e w9 ⟨rfl, rfl⟩); refine hK.out _ _ ?_ (fun hHeld => ?_); (assumption); clear hK K; try dsimp only)
  (refine wpAnyH_take (i := 7) (v := ?_) rfl (by kernel_rfl) (by kernel_rfl) (by kernel_rfl) (fun _ _ _ h => h) (Or.inl ⟨by rfl, ?_⟩) hHeld ?_; rotate_left; (intro w hSw; skip; (go_simp <;> with_reducible rfl)); simp only [List.getElem_toArray, List.getElem_cons_zero, List.getElem_cons_succ, Act.put, List.setIfInBounds_toArray, List.set_cons_zero, List.set_cons_succ])
  (refine wpAnyH_take (i := 8) (v := ?_) rfl (by kernel_rfl) (by kernel_rfl) (by kernel_rfl) (fun _ _ _ h => h) (Or.inl ⟨by rfl, ?_⟩) hHeld ?_; rotate_left; (intro w hSw; skip; (go_simp <;> with_reducible rfl)); simp only [List.getElem_toArray, List.getElem_cons_zero, List.getElem_cons_succ, Act.put, List.setIfInBounds_toArray, List.set_cons_zero, List.set_cons_succ])
  (refine wpAnyH_take (i := 9) (v := ?_) rfl (by kernel_rfl) (by kernel_rfl) (by kernel_rfl) (fun _ _ _ h => h) (Or.inl ⟨by rfl, ?_⟩) hHeld ?_; rotate_left; (intro w hSw; skip; (go_simp <;> with_reducible rfl)); simp only [List.getElem_toArray, List.getElem_cons_zero, List.getElem_cons_succ, Act.put, List.setIfInBounds_toArray, List.set_cons_zero, List.set_cons_succ])
  refine wpAnyH_done (by kernel_rfl) ?_ _
  refine NoPanic.normal ?_
  go_wp2
  exact bodyPost_ret (v := .tuple #[.slice (some ⟨b, off, none⟩) m c, .slice (some ⟨b, off + m, none⟩) m (c - m)]) (by simp [results, Tryd.results112, go_sem]) rfl ⟨rfl, hHeld⟩
end Go.Proofs.YtbakmphopgkpmaaDoor.LbI
