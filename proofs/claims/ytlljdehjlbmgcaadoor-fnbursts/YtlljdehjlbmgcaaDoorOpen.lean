/- OpenBytes, the program's and the model's: both return the same code and the same bytes at any list of bytes; the program's answer is new memory. -/
import Derived.Test.YtlljdehjlbmgcaaDoorSeal
import Derived.Deep.QuietTactic
import Derived.BigQuiet
import Derived.Laws.BytesArg
import Derived.Deep.RegionHeld3
import Derived.Deep.DrawnRows
namespace Go.Proofs.YtlljdehjlbmgcaaDoor.Open
open Go.ChangeShapes Go.WideShapes Go.ChangeAt Go.RowKit Go.Proofs.YtlljdehjlbmgcaaDoor.Num Go.Proofs.YtlljdehjlbmgcaaDoor.Sli Go.Proofs.YtlljdehjlbmgcaaDoor.App Go.Proofs.YtlljdehjlbmgcaaDoor.Byt Go.Proofs.YtlljdehjlbmgcaaDoor.CrcM Go.Proofs.YtlljdehjlbmgcaaDoor.Crc Go.Proofs.YtlljdehjlbmgcaaDoor.Seal

/-- All but the last two. -/
def cut2 (xs : List Int) : List Int := xs.take (xs.length - 2)
def okB (xs : List Int) : Bool := decide (sealL (cut2 xs) = xs)
def opC (xs : List Int) : Int := if xs.length < 2 ∨ 160 < xs.length then 2 else if okB xs = true then 0 else 10
def opL (xs : List Int) : List Int := if xs.length < 2 ∨ 160 < xs.length then [] else if okB xs = true then cut2 xs else []
theorem cut2_len (xs : List Int) : (cut2 xs).length = xs.length - 2 := by unfold cut2; rw [List.length_take]; omega
theorem opL_small (xs : List Int) : (opL xs).length ≤ 1048576 := by
  unfold opL
  split
  · simp
  · split
    · rw [cut2_len]; omega
    · simp
theorem op_many {xs : List Int} (h : xs.length < 2 ∨ 160 < xs.length) : opC xs = 2 ∧ opL xs = [] := by unfold opC opL; rw [if_pos h, if_pos h]; exact ⟨rfl, rfl⟩
theorem op_yes {xs : List Int} (h1 : 2 ≤ xs.length) (h2 : xs.length ≤ 160) (h : okB xs = true) : opC xs = 0 ∧ opL xs = cut2 xs := by
  have hn : ¬ (xs.length < 2 ∨ 160 < xs.length) := by omega
  unfold opC opL; rw [if_neg hn, if_neg hn, if_pos h, if_pos h]; exact ⟨rfl, rfl⟩
theorem op_no {xs : List Int} (h1 : 2 ≤ xs.length) (h2 : xs.length ≤ 160) (h : okB xs = false) : opC xs = 10 ∧ opL xs = [] := by
  have hn : ¬ (xs.length < 2 ∨ 160 < xs.length) := by omega
  have hk : ¬ okB xs = true := by rw [h]; decide
  unfold opC opL; rw [if_neg hn, if_neg hn, if_neg hk, if_neg hk]; exact ⟨rfl, rfl⟩
theorem getD_lt {xs : List Int} {i : Nat} (h : i < xs.length) : xs.getD i 0 = xs[i] := by
  rw [List.getD_eq_getElem?_getD, List.getElem?_eq_getElem h, Option.getD_some]
theorem two_ends (xs : List Int) (h : 2 ≤ xs.length) : xs = cut2 xs ++ [xs.getD (xs.length - 2) 0, xs.getD (xs.length - 2 + 1) 0] := by
  have e1 : xs.drop (xs.length - 2) = [xs.getD (xs.length - 2) 0, xs.getD (xs.length - 2 + 1) 0] := by
    rw [getD_lt (by omega), getD_lt (by omega)]
    rw [List.drop_eq_getElem_cons (by omega), List.drop_eq_getElem_cons (by omega), List.drop_of_length_le (by omega)]
  rw [← e1]
  exact (List.take_append_drop _ _).symm
theorem ok_iff (xs : List Int) (h : 2 ≤ xs.length) : okB xs = true ↔ xs.getD (xs.length - 2) 0 = (crc (cut2 xs) : Int) / 256 ∧ xs.getD (xs.length - 2 + 1) 0 = (crc (cut2 xs) : Int) % 256 := by
  unfold okB
  rw [decide_eq_true_iff]
  constructor
  · intro e
    have e2 := two_ends xs h
    have e3 : sealL (cut2 xs) = cut2 xs ++ [xs.getD (xs.length - 2) 0, xs.getD (xs.length - 2 + 1) 0] := e.trans e2
    unfold sealL at e3
    have e4 := List.append_cancel_left e3
    simp only [List.cons.injEq, and_true] at e4
    exact ⟨e4.1.symm, e4.2.symm⟩
  · rintro ⟨h1, h2⟩
    unfold sealL
    rw [← h1, ← h2]
    exact (two_ends xs h).symm

theorem sl_cut {k : IntKind} {w : World} {A : Option Addr} {n cap : Nat} {ys : List Int} (h : Sl k w (.slice A ys.length cap) ys) (c : Nat) (hc : c ≤ ys.length) (hn : n = c) : Sl k w (.slice A n cap) (ys.take c) := by
  subst hn
  have hl : (ys.take n).length = n := by rw [List.length_take]; omega
  obtain ⟨a', cap', hv, hcell⟩ := h
  simp at hv
  obtain ⟨rfl, rfl⟩ := hv
  refine ⟨A, cap, by rw [hl], fun hne => ?_⟩
  have hp : 0 < n := by
    rcases Nat.eq_zero_or_pos n with h0 | h0
    · subst h0; simp at hne
    · exact h0
  obtain ⟨b, off, ha, hb, hx⟩ := hcell (by intro e; rw [e] at hc; simp at hc; omega)
  refine ⟨b, off, ha, hb, fun i hi => ?_⟩
  rw [hl] at hi
  rw [hx i (by omega)]
  simp [List.getD_eq_getElem?_getD, List.getElem?_take_of_lt hi]

/-- A world behind a new block for an answer, and draws. -/
theorem behind (w : World) (T : TypeId) (v0 v1 : Value) (n : Nat) :
    Below w.heap.size w ((w.alloc (.cells #[v0, v1] T)).drewN n) ∧ ((w.alloc (.cells #[v0, v1] T)).drewN n).heap.size = w.heap.size + 1 ∧ ((w.alloc (.cells #[v0, v1] T)).drewN n).cell? ⟨w.heap.size, 0, none⟩ = some v0 ∧ ((w.alloc (.cells #[v0, v1] T)).drewN n).cell? ⟨w.heap.size, 1, none⟩ = some v1 ∧ ((w.alloc (.cells #[v0, v1] T)).drewN n).frozen? ⟨w.heap.size, 0, none⟩ = false ∧ ((w.alloc (.cells #[v0, v1] T)).drewN n).frozen? ⟨w.heap.size, 1, none⟩ = false :=
  ⟨below_drewN (bmore (Below.refl _ _) _) _, by simp, by simp, by simp, by simp, by simp⟩

set_option maxHeartbeats 2000000 in
theorem implOpen_yes (b off cap n : Nat) (xs : List Int) (w : World) (hfit : n ≤ cap) (hn : n = xs.length) (hb : b < w.heap.size) (hx : BytesL xs) (h2 : 2 ≤ n) (h160 : n ≤ 160)
    (hcell : ∀ i, i < xs.length → w.cell? ⟨b, off + i, none⟩ = some (.int .u8 (xs.getD i 0))) :
    Calls Tryd.prog 13 #[.slice (some ⟨b, off, none⟩) n cap] w fun e w' => ∃ v', e = .returned (.agg #[.int .i64 (opC xs), v']) ∧ OwB w.heap.size w' v' (opL xs) ∧ Below w.heap.size w w' := by
  have Hsl : Hid (Sl .u8 w (.slice (some ⟨b, off, none⟩) xs.length cap) xs) := ⟨_, _, rfl, fun _ => ⟨b, off, rfl, hb, hcell⟩⟩
  obtain ⟨m, rfl⟩ : ∃ m, n = m + 2 := ⟨n - 2, by omega⟩
  have c0 := hcell m (by omega)
  have c1 := hcell (m + 1) (by omega)
  have Hok := hid (ok_iff xs (by omega))
  rw [show xs.length - 2 = m by omega] at Hok
  have hcl := crc_lt (cut2 xs)
  have HS : Hid (Sl .u8 w (.slice (some ⟨b, off, none⟩) m cap) (cut2 xs)) := sl_cut Hsl.out (xs.length - 2) (by omega) (by omega)
  have Hl : Hid (m + 2 = xs.length) := hn
  have hm0 : (m : Int) ≤ 158 := by omega
  have hmc : (m : Int) + 2 ≤ cap := by omega
  clear hcell Hsl hn
  have hx2 : BytesL (cut2 xs) := take_bd hx _
  generalize xs.getD m 0 = y0 at *
  generalize xs.getD (m + 1) 0 = y1 at *
  rw [← Nat.add_assoc] at c1
  have hlen2 : (cut2 xs).length ≤ 1048576 := by rw [cut2_len]; have := Hl.out; omega
  have Hno := hid (fun h => op_no (xs := xs) (by have := Hl.out; omega) (by have := Hl.out; omega) h)
  have Hyes := hid (fun h => op_yes (xs := xs) (by have := Hl.out; omega) (by have := Hl.out; omega) h)
  by_cases e0 : y0 = (crc (cut2 xs) : Int) / 256
  · have b0 : (y0 != (crc (cut2 xs) : Int) / 256) = false := by simpa using e0
    by_cases e1 : y1 = (crc (cut2 xs) : Int) % 256
    · have b1 : (y1 != (crc (cut2 xs) : Int) % 256) = false := by simpa using e1
      obtain ⟨k1, k2⟩ := Hyes.out (Hok.out.2 ⟨e0, e1⟩)
      rw [k1, k2]
      clear e0 e1 k1 k2 Hno Hyes Hok
      go_enter Tryd.func13, Tryd.ntmps13
      go_wp2
      go_quiet (fail)
      obtain ⟨hB1, hz, r0, r1, f0, f1⟩ := behind w 27 (.int .i64 0) (.slice none 0 0) nq
      generalize (w.alloc (Obj.cells #[Value.int .i64 0, Value.slice none 0 0] 27)).drewN nq = W1 at *
      have d0 := (hB1.cell (p := ⟨b, off + m, none⟩) hb).trans c0
      have d1 := (hB1.cell (p := ⟨b, off + m + 1, none⟩) hb).trans c1
      have HB1 := hid hB1
      have Hz := hid hz
      clear hB1 hz c0 c1
      go_wp2_with fail
      refine (registerOf_calls _ (cut2 xs) _ (HS.out.later HB1.out) hx2 hlen2).mono ?_
      rintro e w1 ⟨rfl, hw1⟩
      subst hw1
      go_wp2_with fail
      go_quiet ((first | (go_at_call 34; exact Calls.quiet_of_same (higher_calls _ _ hcl)) | (go_at_call 35; exact Calls.quiet_of_same (lower_calls _ _ hcl))))
      go_wp2_with fail
      refine (clone_calls _ (cut2 xs) _ (HS.out.later (below_drewN HB1.out _)) hlen2).mono ?_
      rintro e w2 ⟨v', rfl, ho, hb2⟩
      have hR : w.heap.size < w1.heap.size := by have := Hz.out; omega
      have q0 := (hb2.cell (p := ⟨w.heap.size, 0, none⟩) hR).trans r0
      have q1 := (hb2.cell (p := ⟨w.heap.size, 1, none⟩) hR).trans r1
      have g0 := (hb2.frozen (p := ⟨w.heap.size, 0, none⟩) hR).trans f0
      have g1 := (hb2.frozen (p := ⟨w.heap.size, 1, none⟩) hR).trans f1
      have ho' : OwB (w.heap.size + 1) w2 v' (cut2 xs) := by
        have h1 : (w1.drewN nq).heap.size = w.heap.size + 1 := Hz.out
        rw [h1] at ho; exact ho
      have HO := hid ho'
      have HB2 := hid (HB1.out.trans ((below_drewN (Below.refl _ w1) nq).trans (hb2.mono (by show w.heap.size ≤ w1.heap.size; omega))))
      obtain ⟨a', c', rfl, _⟩ := ho.sl
      clear ho ho' hb2 r0 r1 f0 f1 d0 d1
      go_wp2
      exact bodyPost_ret (v := .agg #[.int .i64 0, .slice a' (cut2 xs).length c']) (by simp [results, Tryd.results13, go_sem, q0, q1]) rfl ⟨_, rfl, HO.out.set2 _ _, below_set2 HB2.out _ _⟩
    · have b1 : (y1 != (crc (cut2 xs) : Int) % 256) = true := by simpa using e1
      obtain ⟨k1, k2⟩ := Hno.out (by cases h : okB xs with | false => rfl | true => exact absurd (Hok.out.1 h).2 e1)
      rw [k1, k2]
      clear e0 e1 k1 k2 Hno Hyes Hok
      go_enter Tryd.func13, Tryd.ntmps13
      go_wp2
      go_quiet (fail)
      obtain ⟨hB1, hz, r0, r1, f0, f1⟩ := behind w 27 (.int .i64 0) (.slice none 0 0) nq
      generalize (w.alloc (Obj.cells #[Value.int .i64 0, Value.slice none 0 0] 27)).drewN nq = W1 at *
      have d0 := (hB1.cell (p := ⟨b, off + m, none⟩) hb).trans c0
      have d1 := (hB1.cell (p := ⟨b, off + m + 1, none⟩) hb).trans c1
      have HB1 := hid hB1
      have Hz := hid hz
      clear hB1 hz c0 c1
      go_wp2_with fail
      refine (registerOf_calls _ (cut2 xs) _ (HS.out.later HB1.out) hx2 hlen2).mono ?_
      rintro e w1 ⟨rfl, hw1⟩
      subst hw1
      go_wp2_with fail
      go_quiet ((first | (go_at_call 34; exact Calls.quiet_of_same (higher_calls _ _ hcl)) | (go_at_call 35; exact Calls.quiet_of_same (lower_calls _ _ hcl))))
      go_wp2
      exact bodyPost_ret (v := .agg #[.int .i64 10, .slice none 0 0]) (by simp [results, Tryd.results13, go_sem, r0, r1]) rfl ⟨_, rfl, World.ownsRow_nil _ _ _ _, below_set2 (below_drewN HB1.out _) _ _⟩
  · have b0 : (y0 != (crc (cut2 xs) : Int) / 256) = true := by simpa using e0
    obtain ⟨k1, k2⟩ := Hno.out (by cases h : okB xs with | false => rfl | true => exact absurd (Hok.out.1 h).1 e0)
    rw [k1, k2]
    clear e0 k1 k2 Hno Hyes Hok
    go_enter Tryd.func13, Tryd.ntmps13
    go_wp2
    go_quiet (fail)
    obtain ⟨hB1, hz, r0, r1, f0, f1⟩ := behind w 27 (.int .i64 0) (.slice none 0 0) nq
    generalize (w.alloc (Obj.cells #[Value.int .i64 0, Value.slice none 0 0] 27)).drewN nq = W1 at *
    have d0 := (hB1.cell (p := ⟨b, off + m, none⟩) hb).trans c0
    have d1 := (hB1.cell (p := ⟨b, off + m + 1, none⟩) hb).trans c1
    have HB1 := hid hB1
    have Hz := hid hz
    clear hB1 hz c0 c1
    go_wp2_with fail
    refine (registerOf_calls _ (cut2 xs) _ (HS.out.later HB1.out) hx2 hlen2).mono ?_
    rintro e w1 ⟨rfl, hw1⟩
    subst hw1
    go_wp2_with fail
    go_quiet ((first | (go_at_call 34; exact Calls.quiet_of_same (higher_calls _ _ hcl)) | (go_at_call 35; exact Calls.quiet_of_same (lower_calls _ _ hcl))))
    go_wp2
    exact bodyPost_ret (v := .agg #[.int .i64 10, .slice none 0 0]) (by simp [results, Tryd.results13, go_sem, r0, r1]) rfl ⟨_, rfl, World.ownsRow_nil _ _ _ _, below_set2 (below_drewN HB1.out _) _ _⟩

theorem implOpen_calls (v : Value) (xs : List Int) (w : World) (hf : Fits v) (h : Sl .u8 w v xs) (hx : BytesL xs) :
    Calls Tryd.prog 13 #[v] w fun e w' => ∃ v', e = .returned (.agg #[.int .i64 (opC xs), v']) ∧ OwB w.heap.size w' v' (opL xs) ∧ Below w.heap.size w w' := by
  obtain ⟨a, cap, rfl, hc⟩ := h
  by_cases h1 : xs.length < 2
  · have h' : (xs.length : Int) < 2 := by omega
    obtain ⟨k1, k2⟩ := op_many (Or.inl h1)
    rw [k1, k2]
    clear k1 k2 hc
    go_enter Tryd.func13, Tryd.ntmps13
    go_wp2
    exact bodyPost_ret (v := .agg #[.int .i64 2, .slice none 0 0]) (by simp [results, Tryd.results13, go_sem]) rfl ⟨_, rfl, World.ownsRow_nil _ _ _ _, (Below.refl _ _).alloc (Nat.le_refl _) _⟩
  · by_cases h2 : 160 < xs.length
    · have h' : (160 : Int) < xs.length := by omega
      have h'' : ¬ (xs.length : Int) < 2 := by omega
      obtain ⟨k1, k2⟩ := op_many (Or.inr h2)
      rw [k1, k2]
      clear k1 k2 hc
      go_enter Tryd.func13, Tryd.ntmps13
      go_wp2
      exact bodyPost_ret (v := .agg #[.int .i64 2, .slice none 0 0]) (by simp [results, Tryd.results13, go_sem]) rfl ⟨_, rfl, World.ownsRow_nil _ _ _ _, (Below.refl _ _).alloc (Nat.le_refl _) _⟩
    · obtain ⟨b, off, rfl, hb, hcell⟩ := hc (by intro e; rw [e] at h1; simp at h1)
      exact implOpen_yes b off cap xs.length xs w hf rfl hb hx (by omega) (by omega) hcell
end Go.Proofs.YtlljdehjlbmgcaaDoor.Open
