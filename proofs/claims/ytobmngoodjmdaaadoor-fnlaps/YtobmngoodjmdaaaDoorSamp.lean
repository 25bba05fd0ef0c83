/- SizeFault and SamplesFault, the program's and the model's: both return the same code at every size and list. -/
import Derived.Test.YtobmngoodjmdaaaDoorSli
import Derived.Test.YtobmngoodjmdaaaDoorDiv
import Derived.Laws.Rows
import Derived.Laws.Tables
import Derived.Laws.CopyOwn
namespace Go.Proofs.YtobmngoodjmdaaaDoor.Samp
open Go.ChangeShapes Go.WideShapes Go.ChangeAt Go.RowKit Go.Proofs.YtobmngoodjmdaaaDoor.Num Go.Proofs.YtobmngoodjmdaaaDoor.Sli Go.Proofs.YtobmngoodjmdaaaDoor.Div

/-- The code of a size. -/
def szF (s : Int) : Int := if s = 4 ∨ s = 8 ∨ s = 16 then 0 else 3
theorem szF_no {s : Int} (h4 : (s == 4) = false) (h8 : (s == 8) = false) (h16 : (s == 16) = false) : szF s = 3 := by
  simp at h4 h8 h16; unfold szF; rw [if_neg (by omega)]

theorem implSizeFault_calls (s : Int) (w : World) :
    Calls Tryd.prog 44 #[.int .i64 s] w fun e w' => e = .returned (.int .i64 (szF s)) ∧ w' = w := by
  cases h4 : (s == 4)
  · cases h8 : (s == 8)
    · cases h16 : (s == 16)
      · have H : Hid (szF s = 3) := szF_no h4 h8 h16
        go_enter Tryd.func44, Tryd.ntmps44
        go_wp2
        go_ret
        exact ⟨ret_int H.out.symm, rfl⟩
      · simp at h16; subst h16
        go_enter Tryd.func44, Tryd.ntmps44
        go_wp2
        go_ret
        exact ⟨rfl, rfl⟩
    · simp at h8; subst h8
      go_enter Tryd.func44, Tryd.ntmps44
      go_wp2
      go_ret
      exact ⟨rfl, rfl⟩
  · simp at h4; subst h4
    go_enter Tryd.func44, Tryd.ntmps44
    go_wp2
    go_ret
    exact ⟨rfl, rfl⟩

theorem specSizeFault_calls (s : Int) (w : World) :
    Calls Tryd.prog 97 #[.int .i64 s] w fun e w' => e = .returned (.int .i64 (szF s)) ∧ w' = w := by
  cases h4 : (s == 4)
  · cases h8 : (s == 8)
    · cases h16 : (s == 16)
      · have H : Hid (szF s = 3) := szF_no h4 h8 h16
        have n4 : (s != 4) = true := by simp at h4 ⊢; exact h4
        have n8 : (s != 8) = true := by simp at h8 ⊢; exact h8
        have n16 : (s != 16) = true := by simp at h16 ⊢; exact h16
        go_enter Tryd.func97, Tryd.ntmps97
        go_wp2
        go_ret
        exact ⟨ret_int H.out.symm, rfl⟩
      · simp at h16; subst h16
        go_enter Tryd.func97, Tryd.ntmps97
        go_wp2
        go_ret
        exact ⟨rfl, rfl⟩
    · simp at h8; subst h8
      go_enter Tryd.func97, Tryd.ntmps97
      go_wp2
      go_ret
      exact ⟨rfl, rfl⟩
  · simp at h4; subst h4
    go_enter Tryd.func97, Tryd.ntmps97
    go_wp2
    go_ret
    exact ⟨rfl, rfl⟩

def half16 (xs : List Int) (k : Nat) : List Int := xs.take k ++ List.replicate (16 - k) 0
def sampB (v : Int) : Bool := inB (-32768) 32767 v

theorem allB_no {B : Int → Bool} {ys : List Int} {k : Nat} (hk : k < ys.length) (hx : B (ys.getD k 0) = false) : ys.all B = false := by
  rw [List.getD_eq_getElem?_getD, List.getElem?_eq_getElem hk, Option.getD_some] at hx
  rw [List.all_eq_false]
  exact ⟨ys[k], List.getElem_mem hk, by rw [hx]; simp⟩
theorem takeB_snoc {B : Int → Bool} {ys : List Int} {k : Nat} (hk : k < ys.length) (ha : (ys.take k).all B = true) (hx : B (ys.getD k 0) = true) : (ys.take (k + 1)).all B = true := by
  rw [List.getD_eq_getElem?_getD, List.getElem?_eq_getElem hk, Option.getD_some] at hx
  rw [List.take_succ_eq_append_getElem hk, List.all_append, ha]; simp only [List.all_cons, List.all_nil, hx]; rfl
theorem infoNum : (Tryd.prog.info? 130).map (fun i => (i.zero, i.size, i.bytes)) = some (some (.int .i64 0), 1, 8) := by kernel_rfl
theorem cellsNum : Tryd.prog.cellsOf 130 = 1 := by kernel_rfl
theorem plainNum : Tryd.prog.plainKey 130 = true := by kernel_rfl
theorem arrSamp : Tryd.prog.underlying 132 = some (.array 16 130) := by kernel_rfl
theorem sizeSamp : (Tryd.prog.info? 132).map (·.size) = some 16 := by kernel_rfl

theorem run_index_array (cs : Array Value) (j : Nat) (v : Value) (w : World) (hj : j < 16) (hcs : cs[j]? = some v) :
    (Instr.index 132 (.agg cs) (.int .i64 j)).run Tryd.prog w = .ok v w := by
  have hn : (0 ≤ (j : Int) ∧ (j : Int) < ((16 : Nat) : Int)) := by omega
  obtain ⟨i0, hi, _, _, _⟩ := info_parts infoNum
  have hp := run_part_plain w plainNum hcs
  unfold Instr.index
  simp only [asIntOf, Sem.run_bind, Sem.run_pure, Result.andThen_ok, run_underlying arrSamp, run_sizeOf w hi, cellsNum, if_pos hn]
  simpa using hp

/-- What the array holds after k rounds. -/
theorem half16_zero (xs : List Int) : half16 xs 0 = List.replicate 16 0 := by unfold half16; simp
theorem half16_len (xs : List Int) (k : Nat) (h : k ≤ xs.length) (hx : xs.length ≤ 16) : (half16 xs k).length = 16 := by unfold half16; simp; omega
theorem half16_set (xs : List Int) (k : Nat) (h : k < xs.length) (hx : xs.length ≤ 16) : (half16 xs k).set k (xs.getD k 0) = half16 xs (k + 1) := by
  unfold half16
  apply List.ext_getElem
  · simp; omega
  · intro i h1 h2
    simp only [List.getElem_set, List.getElem_append, List.length_take, List.getElem_take, List.getElem_replicate]
    by_cases e : k = i
    · subst e; simp [h, show k < min (k + 1) xs.length by omega]
    · simp only [e, if_false]
      by_cases hi : i < k
      · simp [show i < min k xs.length by omega, show i < min (k + 1) xs.length by omega]
      · simp [show ¬ i < min k xs.length by omega, show ¬ i < min (k + 1) xs.length by omega]
/-- The cells of such an array. -/
def cells16 (ys : List Int) : Array Value := (ys.map (Value.int .i64)).toArray

theorem cells16_size (ys : List Int) : (cells16 ys).size = ys.length := by simp [cells16]
theorem cells16_get (ys : List Int) (j : Nat) (h : j < ys.length) : (cells16 ys)[j]? = some (.int .i64 (ys.getD j 0)) := by
  simp [cells16, h]
theorem cells16_set (ys : List Int) (j : Nat) (x : Int) : (cells16 ys).setIfInBounds j (.int .i64 x) = cells16 (ys.set j x) := by
  simp [cells16, List.map_set]
theorem cells16_one (ys : List Int) : (cells16 ys).all (·.oneCell') = true := by
  rw [Array.all_eq_true_iff_forall_mem]
  intro v hv
  simp [cells16] at hv
  obtain ⟨x, _, rfl⟩ := hv
  rfl
theorem cells16_zero : #[Value.int IntKind.i64 0, Value.int IntKind.i64 0, Value.int IntKind.i64 0, Value.int IntKind.i64 0, Value.int IntKind.i64 0, Value.int IntKind.i64 0, Value.int IntKind.i64 0, Value.int IntKind.i64 0, Value.int IntKind.i64 0, Value.int IntKind.i64 0, Value.int IntKind.i64 0, Value.int IntKind.i64 0, Value.int IntKind.i64 0, Value.int IntKind.i64 0, Value.int IntKind.i64 0, Value.int IntKind.i64 0] = cells16 (List.replicate 16 0) := rfl

set_option maxHeartbeats 1000000 in
theorem samplesOf_some (b off cap : Nat) (xs : List Int) (w : World) (hb : b < w.heap.size) (hmax : xs.length ≤ 16)
    (hcell : ∀ i, i < xs.length → w.cell? ⟨b, off + i, none⟩ = some (.int .i64 (xs.getD i 0))) :
    Calls Tryd.prog 80 #[.slice (some ⟨b, off, none⟩) xs.length cap] w fun e w' => e = .returned (.agg (cells16 (half16 xs xs.length))) ∧ Below w.heap.size w w' := by
  have hm' : (xs.length : Int) ≤ 16 := by omega
  go_enter Tryd.func80, Tryd.ntmps80
  go_wp2
  go_loopw [8] (fun i wr => ∃ k : Nat, k ≤ xs.length ∧ i = .int .i64 k ∧ wr.heap[w.heap.size + 1]? = some (.cells (cells16 (half16 xs k)) 132 (0, 0)) ∧ wr.heap[w.heap.size]? = some (.cells (cells16 (List.replicate 16 0)) 132 (0, 0)) ∧ Below w.heap.size w wr) (fun i _ => xs.length - (intOf i).toNat)
  case atStart => exact ⟨0, Nat.zero_le _, rfl, by rw [heap_alloc2_new, half16_zero, cells16_zero], by rw [heap_alloc2_old, cells16_zero], ((Below.refl _ _).alloc (Nat.le_refl _) _).alloc (by simp) _⟩
  case round =>
    obtain ⟨k, hk, rfl, hrow, hres, hbel⟩ := hrel
    have hl16 := half16_len xs k hk hmax
    by_cases hlt : k < xs.length
    · have hcx := (hbel.cell (p := ⟨b, off + k, none⟩) hb).trans (hcell k hlt)
      have hold : wr.cell? ⟨w.heap.size + 1, k, none⟩ = some (.int .i64 ((half16 xs k).getD k 0)) := by
        rw [cell_of_row wr _ k _ _ _ hrow, cells16_get _ _ (by omega)]
      have hfr := frozen_of_row wr _ k _ _ hrow
      have hnew := heap_setCell_same wr (w.heap.size + 1) k _ _ (.int .i64 (xs.getD k 0)) hrow
      rw [cells16_set, half16_set xs k hlt hmax] at hnew
      have hres' : (wr.setCell ⟨w.heap.size + 1, k, none⟩ (.int .i64 (xs.getD k 0))).heap[w.heap.size]? = some (.cells (cells16 (List.replicate 16 0)) 132 (0, 0)) := by
        rw [heap_setCell_other _ _ _ _ (by simp)]; exact hres
      have hbel' : Below w.heap.size w (wr.setCell ⟨w.heap.size + 1, k, none⟩ (.int .i64 (xs.getD k 0))) := hbel.setCell (p := ⟨w.heap.size + 1, k, none⟩) (by simp) _
      have Hnew := (show Hid _ from hnew)
      have Hres := (show Hid _ from hres')
      clear hnew hres' hcell hres hrow hbel hl16
      generalize xs.getD k 0 = x at *
      generalize (half16 xs k).getD k 0 = y at *
      go_wp2
      go_roundw
      case rel => exact ⟨k + 1, by omega, by go_num, Hnew.out, Hres.out, hbel'⟩
      case measure => simp [intOf]; omega
    · have he : k = xs.length := by omega
      subst he
      have hi1 : (Tryd.prog.info? 132).map (·.size) = some (cells16 (half16 xs xs.length)).size := by rw [cells16_size, hl16]; exact sizeSamp
      have hsz : (cells16 (List.replicate 16 0)).size = (cells16 (half16 xs xs.length)).size := by rw [cells16_size, cells16_size, hl16]; simp
      have h1 := cells16_one (half16 xs xs.length)
      have hset := setRow_heap wr w.heap.size _ (cells16 (half16 xs xs.length)) _ _ hres
      have hbel' := below_setRow hbel (Nat.le_refl _) (cells16 (half16 xs xs.length))
      generalize hcs : cells16 (half16 xs xs.length) = cs at *
      have Hcs := (show Hid _ from hcs)
      clear hcs
      have Hset := (show Hid _ from hset)
      have Hrow := (show Hid _ from hrow)
      have Hres := (show Hid _ from hres)
      have H1 := (show Hid _ from h1)
      have Hsz := (show Hid _ from hsz)
      have Hi1 := (show Hid _ from hi1)
      clear hcell hl16 hset hrow hres h1 hsz hi1
      go_wp2_with (first | (refine wpList_load_row rfl 132 _ rfl (w.heap.size + 1) rfl 132 cs (0, 0) _ Hrow.out arrSamp rfl Hi1.out ?_) | (refine wpList_store_row rfl 132 _ _ rfl w.heap.size cs rfl rfl 132 _ Hres.out Hi1.out Hsz.out H1.out ?_))
      exact bodyPost_ret (v := .agg cs) (results_cell_row rfl _ _ w.heap.size 132 cs (0, 0) _ rfl Hset.out arrSamp rfl Hi1.out) rfl ⟨by rw [Hcs.out], hbel'⟩

theorem samplesOf_none (a : Option Addr) (cap : Nat) (w : World) :
    Calls Tryd.prog 80 #[.slice a 0 cap] w fun e w' => e = .returned (.agg (cells16 (List.replicate 16 0))) ∧ Below w.heap.size w w' := by
  go_enter Tryd.func80, Tryd.ntmps80
  go_wp2
  go_loop [8] (fun i => i = .int .i64 0) (fun _ => 0)
  case atStart => rfl
  case round =>
    obtain rfl := hrel
    go_wp2
    exact bodyPost_ret (v := .agg (cells16 (List.replicate 16 0))) (by rw [← cells16_zero]; simp [results, Tryd.results80, go_sem]) rfl ⟨rfl, ((Below.refl _ _).alloc (Nat.le_refl _) _).alloc (by simp) _⟩

theorem samplesOf_calls (v : Value) (xs : List Int) (w : World) (h : Sl .i64 w v xs) (hmax : xs.length ≤ 16) :
    Calls Tryd.prog 80 #[v] w fun e w' => e = .returned (.agg (cells16 (half16 xs xs.length))) ∧ Below w.heap.size w w' := by
  obtain ⟨a, cap, rfl, hc⟩ := h
  by_cases hne : xs = []
  · subst hne
    exact samplesOf_none a cap w
  · obtain ⟨b, off, rfl, hlt, hcell⟩ := hc hne
    exact samplesOf_some b off cap xs w hlt hmax hcell


set_option maxRecDepth 100000 in
set_option maxHeartbeats 1000000 in
theorem areSamples_calls (ys : List Int) (w : World) (hl : ys.length = 16) :
    Calls Tryd.prog 81 #[.agg (cells16 ys)] w fun e w' => e = .returned (.bool (ys.all sampB)) ∧ Below w.heap.size w w' := by
  have Hi1 : Hid ((Tryd.prog.info? 132).map (·.size) = some (cells16 ys).size) := by unfold Hid; rw [cells16_size, hl]; exact sizeSamp
  have Hix : Hid (∀ k : Nat, k < 16 → ∀ w, (Instr.index 132 (.agg (cells16 ys)) (.int .i64 k)).run Tryd.prog w = .ok (.int .i64 (ys.getD k 0)) w) := fun k hk w => run_index_array _ k _ w hk (cells16_get ys k (by omega))
  have Hl : Hid (ys.length = 16) := hl
  clear hl
  generalize cells16 ys = cs at *
  go_enter Tryd.func81, Tryd.ntmps81
  go_wp2_with (refine wpList_load_row rfl 132 _ rfl w.heap.size rfl 132 cs (0, 0) _ (heap_alloc_new w _) arrSamp rfl Hi1.out ?_)
  go_loop [6] (fun i => ∃ k : Nat, k ≤ 16 ∧ i = .int .i64 k ∧ Hid ((ys.take k).all sampB = true)) (fun i => 16 - (intOf i).toNat)
  case atStart => exact ⟨0, Nat.zero_le _, rfl, rfl⟩
  case round =>
    obtain ⟨k, hk, rfl, ha⟩ := hrel
    by_cases hlt : k < 16
    · have hix := Hix.out k hlt
      have HN : Hid (sampB (ys.getD k 0) = false → ys.all sampB = false) := fun hx => allB_no (by rw [Hl.out]; exact hlt) hx
      have HA : Hid (sampB (ys.getD k 0) = true → (ys.take (k + 1)).all sampB = true) := fun hx => takeB_snoc (by rw [Hl.out]; exact hlt) ha.out hx
      generalize ys.getD k 0 = x at *
      cases hx : sampB x
      · have H : Hid (ys.all sampB = false) := HN.out hx
        unfold sampB at hx
        clear HN HA
        go_wp2_with (go_at_call 108; refine (isWithin_calls _ _ _ _).mono ?_; rintro e w' ⟨rfl, rfl⟩)
        go_ret
        exact ⟨ret_bool H.out.symm, (Below.refl _ _).alloc (Nat.le_refl _) _⟩
      · have hA : Hid ((ys.take (k + 1)).all sampB = true) := HA.out hx
        unfold sampB at hx
        clear HN HA
        go_wp2_with (go_at_call 108; refine (isWithin_calls _ _ _ _).mono ?_; rintro e w' ⟨rfl, rfl⟩)
        go_round
        case rel => exact ⟨k + 1, by omega, by go_num, hA⟩
        case measure => simp [intOf]; omega
    · have he : k = 16 := by omega
      subst he
      have H : Hid (ys.all sampB = true) := by have := ha.out; rwa [← Hl.out, List.take_length] at this
      go_wp2
      go_ret
      exact ⟨ret_bool H.out.symm, (Below.refl _ _).alloc (Nat.le_refl _) _⟩
end Go.Proofs.YtobmngoodjmdaaaDoor.Samp
