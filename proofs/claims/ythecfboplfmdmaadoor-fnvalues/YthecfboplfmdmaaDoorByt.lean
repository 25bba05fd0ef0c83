/- The laws' helpers over lists of bytes: a copy holds the same bytes in new memory; lists that hold the same are told alike; what was marked is held. Condition: at most 1048576 bytes. -/
import Derived.Test.YthecfboplfmdmaaDoorApp
import Derived.RegionTactic
import Derived.WalkSpells
namespace Go.Proofs.YthecfboplfmdmaaDoor.Byt
open Go.ChangeShapes Go.WideShapes Go.ChangeAt Go.RowKit Go.Proofs.YthecfboplfmdmaaDoor.Num Go.Proofs.YthecfboplfmdmaaDoor.Sli Go.Proofs.YthecfboplfmdmaaDoor.App

theorem infoB : (Tryd.prog.info? 5).map (fun i => (i.zero, i.size, i.bytes)) = some (some (.int .u8 0), 1, 1) := by kernel_rfl

/-- An owned list of bytes. -/
abbrev OwB (base : Nat) (w : World) (v : Value) (ys : List Int) : Prop := Ow .u8 5 base w v ys

/-- What the copy holds after k rounds. -/
def half (xs : List Int) (k : Nat) : List Int := xs.take k ++ List.replicate (xs.length - k) 0
theorem half_len (xs : List Int) (k : Nat) (h : k ≤ xs.length) : (half xs k).length = xs.length := by
  unfold half; simp; omega
theorem half_zero (xs : List Int) : half xs 0 = List.replicate xs.length 0 := by unfold half; simp
theorem half_all (xs : List Int) : half xs xs.length = xs := by unfold half; simp
theorem half_set (xs : List Int) (k : Nat) (h : k < xs.length) : (half xs k).set k (xs.getD k 0) = half xs (k + 1) := by
  unfold half
  apply List.ext_getElem
  · simp; omega
  · intro i h1 h2
    simp only [List.getElem_set, List.getElem_append, List.length_take, List.getElem_take, List.getElem_replicate]
    by_cases e : k = i
    · subst e; simp [h, show k < min (k + 1) xs.length by omega]
    · simp only [e, if_false]
      by_cases hi : i < k
      · simp [show i < min k xs.length by omega, show i < min (k + 1) xs.length by omega]
      · simp [show ¬ i < min k xs.length by omega, show ¬ i < min (k + 1) xs.length by omega]
theorem made_zero (n : Nat) : (madeCells #[Value.int .u8 0] n).toList = (List.replicate n (0 : Int)).map (Value.int .u8) := by
  rw [toList_madeCells_one, List.map_replicate]

set_option maxHeartbeats 1000000 in
theorem toByteS_some (b off cap : Nat) (xs : List Int) (w : World) (hlen : xs.length ≤ 1048576) (hb : b < w.heap.size)
    (hcell : ∀ i, i < xs.length → w.cell? ⟨b, off + i, none⟩ = some (.int .u8 (xs.getD i 0))) :
    Calls Tryd.prog 21 #[.slice (some ⟨b, off, none⟩) xs.length cap] w fun e w' => e = .returned (.slice (some ⟨w.heap.size, 0, none⟩) xs.length xs.length) ∧ w'.ownsRow w.heap.size 5 1 (.slice (some ⟨w.heap.size, 0, none⟩) xs.length xs.length) xs.length (xs.map (Value.int .u8)) ∧ Below w.heap.size w w' := by
  obtain ⟨i0, hi, hz0, hz1, hz2⟩ := info_parts infoB
  go_enter Tryd.func21, Tryd.ntmps21
  go_wp2_with (at_make; refine wpList_make_full _ rfl _ _ 22 rfl w.heap.size 5 i0 (.int .u8 0) 1 Tryd.underlying22 hi hz0 hz1 .i64 .i64 _ _ xs.length rfl rfl rfl rfl ?c1 ?c2 ?c3 ?_)
  case c1 => rw [hz2]; omega
  case c2 => unfold maxLen; omega
  case c3 => exact Nat.le_refl _
  intro w1 hown hgrow
  rw [made_zero, ← half_zero] at hown
  have hbel : Below w.heap.size w w1 := (Below.refl _ _).grown hgrow (Nat.le_refl _) (fun k h => by cases h)
  clear hgrow
  go_wp2
  go_loopw [4] (fun i wr => ∃ k : Nat, k ≤ xs.length ∧ i = .int .i64 k ∧ wr.ownsRow w.heap.size 5 1 (.slice (some ⟨w.heap.size, 0, none⟩) xs.length xs.length) xs.length ((half xs k).map (Value.int .u8)) ∧ Below w.heap.size w wr) (fun i _ => xs.length - (intOf i).toNat)
  case atStart => exact ⟨0, Nat.zero_le _, rfl, hown, hbel⟩
  case round =>
    clear hown hbel
    obtain ⟨k, hk, rfl, hown, hbel⟩ := hrel
    by_cases hlt : k < xs.length
    · have hcx := (hbel.cell (p := ⟨b, off + k, none⟩) hb).trans (hcell k hlt)
      have hold : wr.cell? ⟨w.heap.size, k, none⟩ = some (.int .u8 ((half xs k).getD k 0)) := by
        rw [hown.cellAt k (by omega)]
        have := half_len xs k hk
        simp [show k < (half xs k).length by omega]
      have hfr := hown.frozenAt k
      have hst := (hown.stored k (.int .u8 (xs.getD k 0))).1
      rw [show ((half xs k).map (Value.int .u8)).set k (.int .u8 (xs.getD k 0)) = (half xs (k + 1)).map (Value.int .u8) by rw [← half_set xs k hlt, List.map_set]] at hst
      have hbel' : Below w.heap.size w (wr.setCell ⟨w.heap.size, k, none⟩ (.int .u8 (xs.getD k 0))) := hbel.setCell (p := ⟨w.heap.size, k, none⟩) (Nat.le_refl _) _
      generalize xs.getD k 0 = x at *
      generalize (half xs k).getD k 0 = y at *
      clear hown hbel hcell
      go_wp2
      go_roundw
      case rel => exact ⟨k + 1, by omega, by go_num, hst, hbel'⟩
      case measure => simp [intOf]; omega
    · have he : k = xs.length := by omega
      subst he
      rw [half_all] at hown
      go_wp2
      go_ret
      exact ⟨rfl, hown, hbel⟩

theorem toByteS_none (a : Option Addr) (cap : Nat) (w : World) :
    Calls Tryd.prog 21 #[.slice a 0 cap] w fun e w' => e = .returned (.slice (some ⟨w.heap.size, 0, none⟩) 0 0) ∧ w'.ownsRow w.heap.size 5 1 (.slice (some ⟨w.heap.size, 0, none⟩) 0 0) 0 [] ∧ Below w.heap.size w w' := by
  obtain ⟨i0, hi, hz0, hz1, hz2⟩ := info_parts infoB
  go_enter Tryd.func21, Tryd.ntmps21
  go_wp2_with (at_make; refine wpList_make_full _ rfl _ _ 22 rfl w.heap.size 5 i0 (.int .u8 0) 1 Tryd.underlying22 hi hz0 hz1 .i64 .i64 _ _ 0 rfl rfl rfl rfl ?c1 ?c2 ?c3 ?_)
  case c1 => omega
  case c2 => unfold maxLen; omega
  case c3 => exact Nat.le_refl _
  intro w1 hown hgrow
  have hbel : Below w.heap.size w w1 := (Below.refl _ _).grown hgrow (Nat.le_refl _) (fun k h => by cases h)
  have hown' : Hid (w1.ownsRow w.heap.size 5 1 (.slice (some ⟨w.heap.size, 0, none⟩) 0 0) 0 []) := by rw [made_zero] at hown; exact hown
  clear hgrow hown
  go_wp2
  go_loopw [4] (fun i wr => i = .int .i64 0 ∧ wr = w1) (fun _ _ => 0)
  case atStart => exact ⟨rfl, rfl⟩
  case round =>
    obtain ⟨rfl, rfl⟩ := hrel
    go_wp2
    go_ret
    exact ⟨rfl, hown'.out, hbel⟩

/-- The copy holds the same bytes, in new memory. -/
theorem toByteS_calls (v : Value) (xs : List Int) (w : World) (h : Sl .u8 w v xs) (hlen : xs.length ≤ 1048576) :
    Calls Tryd.prog 21 #[v] w fun e w' => ∃ g, e = .returned (.slice (some ⟨g, 0, none⟩) xs.length xs.length) ∧ OwB w.heap.size w' (.slice (some ⟨g, 0, none⟩) xs.length xs.length) xs ∧ Below w.heap.size w w' := by
  obtain ⟨a, cap, rfl, hc⟩ := h
  by_cases hne : xs = []
  · subst hne
    refine (toByteS_none a cap w).mono ?_
    rintro e w' ⟨rfl, ho, hb⟩
    exact ⟨_, rfl, ho, hb⟩
  · obtain ⟨b, off, rfl, hlt, hcell⟩ := hc hne
    refine (toByteS_some b off cap xs w hlen hlt hcell).mono ?_
    rintro e w' ⟨rfl, hown, hb⟩
    exact ⟨_, rfl, hown, hb⟩

theorem eqByteS_some (b1 off1 cap1 b2 off2 cap2 : Nat) (xs : List Int) (w : World) (hlen : xs.length ≤ 1048576) (hb1 : b1 < w.heap.size) (hb2 : b2 < w.heap.size)
    (h1 : ∀ i, i < xs.length → w.cell? ⟨b1, off1 + i, none⟩ = some (.int .u8 (xs.getD i 0))) (h2 : ∀ i, i < xs.length → w.cell? ⟨b2, off2 + i, none⟩ = some (.int .u8 (xs.getD i 0))) :
    Calls Tryd.prog 23 #[.slice (some ⟨b1, off1, none⟩) xs.length cap1, .slice (some ⟨b2, off2, none⟩) xs.length cap2] w fun e w' => e = .returned (.bool true) ∧ Below w.heap.size w w' := by
  go_enter Tryd.func23, Tryd.ntmps23
  go_wp2
  go_loopw [5] (fun i wr => ∃ k : Nat, k ≤ xs.length ∧ i = .int .i64 k ∧ Below w.heap.size w wr) (fun i _ => xs.length - (intOf i).toNat)
  case atStart => exact ⟨0, Nat.zero_le _, rfl, Below.refl _ _⟩
  case round =>
    obtain ⟨k, hk, rfl, hbel⟩ := hrel
    by_cases hlt : k < xs.length
    · have c1 := (hbel.cell (p := ⟨b1, off1 + k, none⟩) hb1).trans (h1 k hlt)
      have c2 := (hbel.cell (p := ⟨b2, off2 + k, none⟩) hb2).trans (h2 k hlt)
      generalize xs.getD k 0 = x at *
      have hbel' := hbel.drew
      clear h1 h2 hbel
      go_wp2
      go_region
      all_goals go_wp2
      all_goals go_roundw
      case rel => exact ⟨k + 1, by omega, by go_num, hbel'⟩
      case measure => simp [intOf]; omega
    · go_wp2
      go_ret
      exact ⟨rfl, hbel⟩

theorem eqByteS_none (a1 a2 : Option Addr) (cap1 cap2 : Nat) (w : World) :
    Calls Tryd.prog 23 #[.slice a1 0 cap1, .slice a2 0 cap2] w fun e w' => e = .returned (.bool true) ∧ Below w.heap.size w w' := by
  go_enter Tryd.func23, Tryd.ntmps23
  go_wp2
  go_loop [5] (fun i => i = .int .i64 0) (fun _ => 0)
  case atStart => rfl
  case round =>
    obtain rfl := hrel
    go_wp2
    go_ret
    exact ⟨rfl, Below.refl _ _⟩

/-- Two slices that hold the same bytes are told alike. -/
theorem eqByteS_calls (v1 v2 : Value) (xs : List Int) (w : World) (h1 : Sl .u8 w v1 xs) (h2 : Sl .u8 w v2 xs) (hlen : xs.length ≤ 1048576) :
    Calls Tryd.prog 23 #[v1, v2] w fun e w' => e = .returned (.bool true) ∧ Below w.heap.size w w' := by
  obtain ⟨a1, cap1, rfl, hc1⟩ := h1
  obtain ⟨a2, cap2, rfl, hc2⟩ := h2
  by_cases hne : xs = []
  · subst hne
    exact eqByteS_none a1 a2 cap1 cap2 w
  · obtain ⟨b1, off1, rfl, hlt1, hcell1⟩ := hc1 hne
    obtain ⟨b2, off2, rfl, hlt2, hcell2⟩ := hc2 hne
    exact eqByteS_some b1 off1 cap1 b2 off2 cap2 xs w hlen hlt1 hlt2 hcell1 hcell2

theorem eqBytesResult_calls (c : Int) (v1 v2 : Value) (xs : List Int) (w : World) (h1 : Sl .u8 w v1 xs) (h2 : Sl .u8 w v2 xs) (hlen : xs.length ≤ 1048576) :
    Calls Tryd.prog 16 #[.agg #[.int .i64 c, v1], .agg #[.int .i64 c, v2]] w fun e w' => e = .returned (.bool true) ∧ Below w.heap.size w w' := by
  have H1 := hid h1
  have H2 := hid h2
  obtain ⟨a1, cap1, rfl, _⟩ := h1
  obtain ⟨a2, cap2, rfl, _⟩ := h2
  go_enter Tryd.func16, Tryd.ntmps16
  go_wp2_with fail
  have hb := bmore (bmore (Below.refl _ w) (.cells #[.int .i64 c, .slice a1 xs.length cap1] 27)) (.cells #[.int .i64 c, .slice a2 xs.length cap2] 27)
  refine (eqByteS_calls _ _ xs _ (H1.out.later hb) (H2.out.later hb) hlen).mono ?_
  rintro e w' ⟨rfl, hb'⟩
  have hall := bthen hb hb'
  go_wp2
  go_ret
  exact ⟨rfl, hall⟩

/-- The marks that are written: the numbers from k on, as bytes. -/
def marks (k n : Nat) : List Int := (List.range n).map fun i => ((k + i : Nat) : Int) % 256
theorem marks_len (k n : Nat) : (marks k n).length = n := by simp [marks]
theorem marks_get (k n i : Nat) (h : i < n) : (marks k n).getD i 0 = ((k + i : Nat) : Int) % 256 := by simp [marks, h]
/-- What a list holds once i marks are written into it. -/
def marked (k : Nat) (xs : List Int) (i : Nat) : List Int := marks k i ++ xs.drop i
theorem marked_len (k : Nat) (xs : List Int) (i : Nat) (h : i ≤ xs.length) : (marked k xs i).length = xs.length := by simp [marked, marks_len]; omega
theorem marked_all (k : Nat) (xs : List Int) : marked k xs xs.length = marks k xs.length := by simp [marked]
theorem marked_set (k : Nat) (xs : List Int) (i : Nat) (h : i < xs.length) : (marked k xs i).set i (((k + i : Nat) : Int) % 256) = marked k xs (i + 1) := by
  apply List.ext_getElem
  · rw [List.length_set, marked_len _ _ _ (by omega), marked_len _ _ _ (by omega)]
  · intro j h1 h2
    simp only [marked, marks, List.getElem_set, List.getElem_append, List.length_map, List.length_range, List.getElem_map, List.getElem_range, List.getElem_drop]
    by_cases e : i = j
    · subst e; simp
    · simp only [e, if_false]
      by_cases hj : j < i
      · simp [hj, show j < i + 1 by omega]
      · simp only [hj, show ¬ j < i + 1 by omega, dite_false]
        congr 1; omega

set_option maxHeartbeats 1000000 in
theorem markByteS_some (base g cap m : Nat) (xs : List Int) (w : World) (k : Nat) (h : OwB base w (.slice (some ⟨g, 0, none⟩) m cap) xs) (hm : m = xs.length) (hlen : xs.length ≤ 1048576) (hk : k ≤ 10000000) :
    Calls Tryd.prog 24 #[.slice (some ⟨g, 0, none⟩) m cap, .int .i64 k] w fun e w' => e = .returned (.int .i64 ((k + xs.length : Nat) : Int)) ∧ OwB base w' (.slice (some ⟨g, 0, none⟩) m cap) (marks k xs.length) ∧ w.grownBy w' (some g) := by
  have H0 : Hid (OwB base w (.slice (some ⟨g, 0, none⟩) m cap) (marked k xs 0)) := h
  clear h
  subst hm
  go_enter Tryd.func24, Tryd.ntmps24
  go_wp2
  go_loopw [1, 5] (fun q i wr => ∃ j : Nat, j ≤ xs.length ∧ i = .int .i64 j ∧ q = .int .i64 ((k + j : Nat) : Int) ∧ Hid (OwB base wr (.slice (some ⟨g, 0, none⟩) xs.length cap) (marked k xs j)) ∧ Hid (w.grownBy wr (some g))) (fun _ i _ => xs.length - (intOf i).toNat)
  case atStart => exact ⟨0, Nat.zero_le _, rfl, rfl, H0.out, grown_refl _ _⟩
  case round =>
    obtain ⟨j, hj, rfl, rfl, ho, hg⟩ := hrel
    clear H0
    by_cases hlt : j < xs.length
    · have hml := marked_len k xs j hj
      obtain ⟨hc, hf⟩ := ho.out.cellAt hml.symm j (by omega)
      have hs := ho.out.set hml.symm j (((k + j : Nat) : Int) % 256)
      rw [marked_set k xs j hlt] at hs
      have HS := hid hs
      have hcast : (((k + j : Nat) : Int)) = (k : Int) + j := by omega
      clear hs hml ho
      generalize (marked k xs j).getD j 0 = y at *
      rw [hcast] at *
      clear hcast
      go_wp2
      go_roundw
      case rel => exact ⟨j + 1, by omega, by go_num, by go_num, HS.out.1, grown_same hg.out HS.out.2⟩
      case measure => simp [intOf]; omega
    · have he : j = xs.length := by omega
      subst he
      rw [marked_all] at ho
      go_wp2
      go_ret
      exact ⟨rfl, ho.out, hg.out⟩
theorem markByteS_none (w : World) (k : Nat) :
    Calls Tryd.prog 24 #[.slice none 0 0, .int .i64 k] w fun e w' => e = .returned (.int .i64 k) ∧ w' = w := by
  go_enter Tryd.func24, Tryd.ntmps24
  go_wp2
  go_loop [1, 5] (fun q i => q = .int .i64 k ∧ i = .int .i64 0) (fun _ _ => 0)
  case atStart => exact ⟨rfl, rfl⟩
  case round =>
    obtain ⟨rfl, rfl⟩ := hrel
    go_wp2
    go_ret
    exact ⟨rfl, rfl⟩
/-- Marks are written into a list of the call's own: nothing else turns. -/
theorem markByteS_calls (base : Nat) (v : Value) (xs : List Int) (w : World) (k : Nat) (h : OwB base w v xs) (hlen : xs.length ≤ 1048576) (hk : k ≤ 10000000) :
    Calls Tryd.prog 24 #[v, .int .i64 k] w fun e w' => e = .returned (.int .i64 ((k + xs.length : Nat) : Int)) ∧ OwB base w' v (marks k xs.length) ∧ w.grownBy w' v.ownBlock := by
  rcases h.2 with ⟨rfl, h0⟩ | ⟨g, cap, cur, rfl, _⟩
  · have hx : xs = [] := List.eq_nil_of_length_eq_zero h0
    subst hx
    refine (markByteS_none w k).mono ?_
    rintro e w' ⟨rfl, rfl⟩
    exact ⟨rfl, h, grown_refl _ _⟩
  · exact markByteS_some base g cap _ xs w k h rfl hlen hk

theorem heldByteS_some (b off cap : Nat) (n : Nat) (w : World) (k : Nat) (hlen : n ≤ 1048576) (hk : k ≤ 10000000)
    (hcell : ∀ i, i < n → w.cell? ⟨b, off + i, none⟩ = some (.int .u8 (((k + i : Nat) : Int) % 256))) :
    Calls Tryd.prog 42 #[.slice (some ⟨b, off, none⟩) n cap, .int .i64 k] w fun e w' => e = .returned (.int .i64 ((k + n : Nat) : Int)) ∧ w' = w := by
  go_enter Tryd.func42, Tryd.ntmps42
  go_wp2
  go_loop [1, 5] (fun q i => ∃ j : Nat, j ≤ n ∧ i = .int .i64 j ∧ q = .int .i64 ((k + j : Nat) : Int)) (fun _ i => n - (intOf i).toNat)
  case atStart => exact ⟨0, Nat.zero_le _, rfl, rfl⟩
  case round =>
    obtain ⟨j, hj, rfl, rfl⟩ := hrel
    have hcast : (((k + j : Nat) : Int)) = (k : Int) + j := by omega
    by_cases hlt : j < n
    · have hc := hcell j hlt
      clear hcell
      rw [hcast] at *
      clear hcast
      go_wp2
      go_round
      case rel => exact ⟨j + 1, by omega, by go_num, by go_num⟩
      case measure => simp [intOf]; omega
    · have he : j = n := by omega
      subst he
      clear hcell
      go_wp2
      go_ret
      exact ⟨rfl, rfl⟩
theorem heldByteS_none (a : Option Addr) (cap : Nat) (w : World) (k : Nat) :
    Calls Tryd.prog 42 #[.slice a 0 cap, .int .i64 k] w fun e w' => e = .returned (.int .i64 k) ∧ w' = w := by
  go_enter Tryd.func42, Tryd.ntmps42
  go_wp2
  go_loop [1, 5] (fun q i => q = .int .i64 k ∧ i = .int .i64 0) (fun _ _ => 0)
  case atStart => exact ⟨rfl, rfl⟩
  case round =>
    obtain ⟨rfl, rfl⟩ := hrel
    go_wp2
    go_ret
    exact ⟨rfl, rfl⟩
theorem heldByteS_calls (v : Value) (n : Nat) (w : World) (k : Nat) (h : Sl .u8 w v (marks k n)) (hlen : n ≤ 1048576) (hk : k ≤ 10000000) :
    Calls Tryd.prog 42 #[v, .int .i64 k] w fun e w' => e = .returned (.int .i64 ((k + n : Nat) : Int)) ∧ w' = w := by
  obtain ⟨a, cap, rfl, hc⟩ := h
  rw [marks_len]
  by_cases hn : n = 0
  · subst hn
    exact heldByteS_none a cap w k
  · obtain ⟨b, off, rfl, hlt, hcell⟩ := hc (by intro e; have := marks_len k n; rw [e] at this; simp at this; omega)
    refine heldByteS_some b off cap n w k hlen hk (fun i hi => ?_)
    rw [hcell i (by rw [marks_len]; exact hi), marks_get k n i hi]

theorem markBytesResult_calls (base : Nat) (c : Int) (v : Value) (xs : List Int) (w : World) (k : Nat) (h : OwB base w v xs) (hlen : xs.length ≤ 1048576) (hk : k ≤ 10000000) :
    Calls Tryd.prog 19 #[.agg #[.int .i64 c, v], .int .i64 k] w fun e w' => e = .returned (.int .i64 ((k + xs.length : Nat) : Int)) ∧ OwB base w' v (marks k xs.length) ∧ w.grownBy w' v.ownBlock := by
  have H := hid h
  obtain ⟨a, cap, rfl, _⟩ := h.sl
  clear h
  go_enter Tryd.func19, Tryd.ntmps19
  go_wp2_with fail
  refine (markByteS_calls base _ xs _ k (H.out.alloc _) hlen hk).mono ?_
  rintro e w' ⟨rfl, ho, hg⟩
  have HO := hid ho
  have HG := hid hg
  clear ho hg
  go_wp2
  go_ret
  refine ⟨rfl, HO.out, ⟨HG.out.os, HG.out.tape, HG.out.output, Nat.le_trans (by simp) HG.out.size, fun j hj hne => ?_⟩⟩
  rw [HG.out.block j (by simp; omega) hne, Below.heap_alloc _ _ j hj]

theorem heldBytesResult_calls (c : Int) (v : Value) (n : Nat) (w : World) (k : Nat) (h : Sl .u8 w v (marks k n)) (hlen : n ≤ 1048576) (hk : k ≤ 10000000) :
    Calls Tryd.prog 20 #[.agg #[.int .i64 c, v], .int .i64 k] w fun e w' => e = .returned (.int .i64 ((k + n : Nat) : Int)) ∧ Below w.heap.size w w' := by
  have H := hid h
  obtain ⟨a, cap, rfl, _⟩ := h
  go_enter Tryd.func20, Tryd.ntmps20
  go_wp2_with fail
  have hb := bmore (Below.refl _ w) (.cells #[.int .i64 c, .slice a (marks k n).length cap] 27)
  refine (heldByteS_calls _ n _ k (H.out.later hb) hlen hk).mono ?_
  rintro e w' ⟨rfl, rfl⟩
  have hcast : (((k + n : Nat) : Int)) = (k : Int) + n := by omega
  have hpos : ¬ ((k : Int) + n < 0) := by omega
  rw [hcast] at *
  clear hcast
  go_wp2
  go_ret
  exact ⟨rfl, hb⟩

theorem l1Copy_calls (v : Value) (xs : List Int) (w : World) (h : Sl .u8 w v xs) (hlen : xs.length ≤ 1048576) :
    Calls Tryd.prog 84 #[v] w fun e w' => ∃ g cap, e = .returned (.slice (some ⟨g, 0, none⟩) xs.length cap) ∧ OwB w.heap.size w' (.slice (some ⟨g, 0, none⟩) xs.length cap) xs ∧ Below w.heap.size w w' := by
  obtain ⟨i0, hi, hz0, hz1, hz2⟩ := info_parts infoB
  have H := hid h
  obtain ⟨a, cap, rfl, _⟩ := h
  go_enter Tryd.func84, Tryd.ntmps84
  go_wp2_with (at_builtin; refine wpList_append_sl _ rfl _ _ 22 rfl w.heap.size 5 i0 .u8 0 1 Tryd.underlying22 hi hz0 hz1 hz2 (by decide) w.heap.size 0 0 [] rfl rfl (ow_new _ _ _ w (Nat.le_refl _)) _ xs rfl (H.out.later (bmore (Below.refl _ _) _)) ?c1 ?c2 ?_)
  case c1 => simp; omega
  case c2 => simp
  intro g cap' w' ho hg hlt
  have hb := (bmore (Below.refl _ w) (.cells #[] 5)).trans (below_of_grown hg (by simp) (fun j e => by cases e; exact Nat.le_refl _))
  have HO := hid ho
  have HB := hid hb
  clear ho hb hg
  go_wp2
  go_ret
  exact ⟨_, _, rfl, HO.out, HB.out⟩

theorem clone_calls (v : Value) (xs : List Int) (w : World) (h : Sl .u8 w v xs) (hlen : xs.length ≤ 1048576) :
    Calls Tryd.prog 77 #[v] w fun e w' => ∃ v', e = .returned v' ∧ OwB w.heap.size w' v' xs ∧ Below w.heap.size w w' := by
  obtain ⟨i0, hi, hz0, hz1, hz2⟩ := info_parts infoB
  have H := hid h
  obtain ⟨a, cap, rfl, hc⟩ := h
  have hq : ∀ (W : World) (a : Option Addr) (n c n' c' : Nat), (binOp .eql 22 (.slice a n c) (.slice none n' c')).run Tryd.prog W = .ok (.bool a.isNone) W := fun W a n c n' c' => Lib.run_eql_slice_nil W _ _ a n c n' c' Tryd.underlying22
  cases a with
  | none =>
    have hx : xs = [] := by
      by_cases hne : xs = []
      · exact hne
      · obtain ⟨_, _, h1, _⟩ := hc hne; cases h1
    subst hx
    clear hc H
    go_enter Tryd.func77, Tryd.ntmps77
    go_wp2
    go_ret
    exact ⟨_, rfl, World.ownsRow_nil _ _ _ _, Below.refl _ _⟩
  | some ad =>
    clear hc
    go_enter Tryd.func77, Tryd.ntmps77
    go_wp2_with (at_builtin; refine wpList_append_sl _ rfl _ _ 22 rfl w.heap.size 5 i0 .u8 0 1 Tryd.underlying22 hi hz0 hz1 hz2 (by decide) w.heap.size 0 0 [] rfl rfl (ow_new _ _ _ w (Nat.le_refl _)) _ xs rfl (H.out.later (bmore (Below.refl _ _) _)) ?c1 ?c2 ?_)
    case c1 => simp; omega
    case c2 => simp
    intro g cap' w' ho hg hlt
    have hb := (bmore (Below.refl _ w) (.cells #[] 5)).trans (below_of_grown hg (by simp) (fun j e => by cases e; exact Nat.le_refl _))
    have HO := hid ho
    have HB := hid hb
    clear ho hb hg
    go_wp2
    go_ret
    exact ⟨_, rfl, HO.out, HB.out⟩
end Go.Proofs.YthecfboplfmdmaaDoor.Byt
