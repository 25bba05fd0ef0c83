/- SealBytes, the program's and the model's: both return the same code and the same bytes at any list of bytes; the program's answer is new memory. -/
import Derived.Test.YtlljdehjlbmgcaaDoorCrc
import Derived.Test.YtlljdehjlbmgcaaDoorByt
namespace Go.Proofs.YtlljdehjlbmgcaaDoor.Seal
open Go.ChangeShapes Go.WideShapes Go.ChangeAt Go.RowKit Go.Proofs.YtlljdehjlbmgcaaDoor.Num Go.Proofs.YtlljdehjlbmgcaaDoor.Sli Go.Proofs.YtlljdehjlbmgcaaDoor.App Go.Proofs.YtlljdehjlbmgcaaDoor.Byt Go.Proofs.YtlljdehjlbmgcaaDoor.CrcM Go.Proofs.YtlljdehjlbmgcaaDoor.Crc

def seC (xs : List Int) : Int := if 158 < xs.length then 2 else 0
def seL (xs : List Int) : List Int := if 158 < xs.length then [] else sealL xs

theorem seL_small (xs : List Int) : (seL xs).length ≤ 1048576 := by
  unfold seL
  split
  · simp
  · rw [sealL_len]; omega

theorem higher_calls (r : Nat) (w : World) (_ : r < 65536) : Calls Tryd.prog 34 #[.int .u16 r] w fun e w' => e = .returned (.int .u8 ((r : Int) / 256)) ∧ w' = w := by
  go_enter Tryd.func34, Tryd.ntmps34
  go_wp2
  go_ret
  exact ⟨ret_int (by omega), rfl⟩
theorem lower_calls (r : Nat) (w : World) (_ : r < 65536) : Calls Tryd.prog 35 #[.int .u16 r] w fun e w' => e = .returned (.int .u8 ((r : Int) % 256)) ∧ w' = w := by
  go_enter Tryd.func35, Tryd.ntmps35
  go_wp2
  go_ret
  exact ⟨ret_int (by omega), rfl⟩

set_option maxHeartbeats 1000000 in
theorem implSeal_yes (v : Value) (xs : List Int) (w : World) (h : Sl .u8 w v xs) (hx : BytesL xs) (hm : xs.length ≤ 158) :
    Calls Tryd.prog 10 #[v] w fun e w' => ∃ g cap, e = .returned (.agg #[.int .i64 0, .slice (some ⟨g, 0, none⟩) (xs.length + 2) cap]) ∧ OwB w.heap.size w' (.slice (some ⟨g, 0, none⟩) (xs.length + 2) cap) (sealL xs) ∧ Below w.heap.size w w' := by
  obtain ⟨i0, hi, hz0, hz1, hz2⟩ := info_parts infoB
  have H := hid h
  obtain ⟨a, cap, rfl, _⟩ := h
  have h' : (xs.length : Int) ≤ 158 := by omega
  have hcl := crc_lt xs
  go_enter Tryd.func10, Tryd.ntmps10
  go_wp2_with (first | (go_at_call 33; refine (registerOf_calls _ xs _ (H.out.later (bmore (Below.refl _ _) _)) hx (by omega)).mono ?_; rintro e w' ⟨rfl, rfl⟩) | (at_make; refine wpList_make_own _ rfl _ _ 22 rfl (w.heap.size + 1) 5 i0 (.int .u8 0) 1 Tryd.underlying22 hi hz0 hz1 .i64 .i64 _ (xs.length + 2) rfl rfl ?c1 ?c2 ?c3 ?c4 ?_))
  case c1 => omega
  case c2 => rw [hz2]; omega
  case c3 => unfold maxLen; omega
  case c4 => simp
  intro w2 hown hgrow
  have ho2 : OwB (w.heap.size + 1) w2 (.slice (some ⟨w.heap.size + 1, 0, none⟩) 0 (xs.length + 2)) [] := by unfold OwB Ow; simpa using hown
  have hb2 := below_of_grown (B := w.heap.size + 1) hgrow (by simp) (fun j e => by cases e)
  have hs2 := hgrow.size
  have HO2 := hid ho2
  have HB2 := hid hb2
  clear hown hgrow ho2 hb2
  simp at hs2
  go_wp2_with (at_builtin; refine wpList_append_sl _ rfl _ _ 22 rfl (w.heap.size + 1) 5 i0 .u8 0 1 Tryd.underlying22 hi hz0 hz1 hz2 (by decide) (w.heap.size + 1) 0 (xs.length + 2) [] rfl rfl HO2.out _ xs rfl (H.out.later (bthen (bmore (Below.refl _ _) _) (HB2.out.mono (by simp)))) ?d1 ?d2 ?_)
  case d1 => simp; omega
  case d2 => omega
  intro g3 cap3 w3 ho3 hg3 hlt3
  have hb3 := HB2.out.trans (below_of_grown hg3 (by omega) (fun j e => by cases e; exact Nat.le_refl _))
  have hs3 := hg3.size
  have ho3' : OwB (w.heap.size + 1) w3 (.slice (some ⟨g3, 0, none⟩) xs.length cap3) xs := by simpa using ho3
  have hgl := ho3'.block g3 rfl
  have HO3 := hid ho3'
  have HB3 := hid hb3
  clear ho3 hg3 ho3' hb3 HO2 HB2
  go_wp2_with (first | (go_at_call 34; refine (higher_calls _ _ hcl).mono ?_; rintro e w' ⟨rfl, rfl⟩) | (go_at_call 35; refine (lower_calls _ _ hcl).mono ?_; rintro e w' ⟨rfl, rfl⟩) | (at_builtin; refine wpList_append_sl _ rfl _ _ 22 rfl (w.heap.size + 1) 5 i0 .u8 0 1 Tryd.underlying22 hi hz0 hz1 hz2 (by decide) g3 xs.length cap3 xs rfl rfl (HO3.out.alloc _) _ [(crc xs : Int) / 256, (crc xs : Int) % 256] rfl (sl_lit _ _ _ _ _ _ rfl rfl) ?e1 ?e2 ?_))
  case e1 => simp; omega
  case e2 => simp; omega
  intro g4 cap4 w4 ho4 hg4 hlt4
  have hb4 := HB3.out.trans (((Below.refl _ _).alloc (by omega) _).trans (below_of_grown (B := w.heap.size + 1) hg4 (by simp; omega) (fun j e => by cases e; exact hgl.1)))
  have c0 := hb4.cell (p := ⟨w.heap.size, 0, none⟩) (by simp)
  have c1 := hb4.cell (p := ⟨w.heap.size, 1, none⟩) (by simp)
  have f0 := hb4.frozen (p := ⟨w.heap.size, 0, none⟩) (by simp)
  have f1 := hb4.frozen (p := ⟨w.heap.size, 1, none⟩) (by simp)
  have HO4 : Hid (OwB (w.heap.size + 1) w4 (.slice (some ⟨g4, 0, none⟩) (xs.length + 2) cap4) (sealL xs)) := ho4
  have HB4 := hid (bthen (bmore (Below.refl _ w) (.cells #[.int .i64 0, .slice none 0 0] 27)) (hb4.mono (by simp)))
  clear ho4 hg4 hb4 HB3 HO3 hgl
  go_wp2
  exact bodyPost_ret (v := .agg #[.int .i64 0, .slice (some ⟨g4, 0, none⟩) (xs.length + 2) cap4]) (by simp [results, Tryd.results10, go_sem, c0, c1]) rfl ⟨g4, cap4, rfl, HO4.out.set2 _ _, below_set2 HB4.out _ _⟩
/-- The program's answer is the sealed list, in new memory. -/
theorem implSeal_calls (v : Value) (xs : List Int) (w : World) (h : Sl .u8 w v xs) (hx : BytesL xs) :
    Calls Tryd.prog 10 #[v] w fun e w' => ∃ v', e = .returned (.agg #[.int .i64 (seC xs), v']) ∧ OwB w.heap.size w' v' (seL xs) ∧ Below w.heap.size w w' := by
  by_cases hm : 158 < xs.length
  · have h' : (158 : Int) < xs.length := by omega
    rw [show seC xs = 2 from if_pos hm, show seL xs = [] from if_pos hm]
    obtain ⟨a, cap, rfl, _⟩ := h
    go_enter Tryd.func10, Tryd.ntmps10
    go_wp2
    exact bodyPost_ret (v := .agg #[.int .i64 2, .slice none 0 0]) (by simp [results, Tryd.results10, go_sem]) rfl ⟨_, rfl, World.ownsRow_nil _ _ _ _, (Below.refl _ _).alloc (Nat.le_refl _) _⟩
  · rw [show seC xs = 0 from if_neg hm, show seL xs = sealL xs from if_neg hm]
    refine (implSeal_yes v xs w h hx (by omega)).mono ?_
    rintro e w' ⟨g, cap, rfl, ho, hb⟩
    exact ⟨_, rfl, ho, hb⟩

set_option maxHeartbeats 1000000 in
theorem l2Seal_calls (v : Value) (xs : List Int) (w : World) (h : Sl .u8 w v xs) (hx : BytesL xs) (hm : xs.length ≤ 1000) :
    Calls Tryd.prog 36 #[v] w fun e w' => ∃ g cap, e = .returned (.slice (some ⟨g, 0, none⟩) (xs.length + 2) cap) ∧ OwB w.heap.size w' (.slice (some ⟨g, 0, none⟩) (xs.length + 2) cap) (sealL xs) ∧ Below w.heap.size w w' := by
  obtain ⟨i0, hi, hz0, hz1, hz2⟩ := info_parts infoB
  have H := hid h
  obtain ⟨a, cap, rfl, _⟩ := h
  have hcl := crc_lt xs
  go_enter Tryd.func36, Tryd.ntmps36
  go_wp2_with (go_at_call 42; refine (l2Crc_calls _ xs _ H.out hx (by omega)).mono ?_; rintro e w' ⟨rfl, rfl⟩)
  refine (l1Copy_calls _ xs _ H.out (by omega)).mono ?_
  rintro e w1 ⟨g1, cap1, rfl, ho1, hb1⟩
  have hbl := ho1.block g1 rfl
  have hs1 := hb1.size
  have HO := hid ho1
  have HB := hid hb1
  clear ho1 hb1
  go_wp2_with (at_builtin; refine wpList_append_sl _ rfl _ _ 22 rfl w'.heap.size 5 i0 .u8 0 1 Tryd.underlying22 hi hz0 hz1 hz2 (by decide) g1 xs.length cap1 xs rfl rfl (HO.out.alloc _) _ [(crc xs : Int) / 256, (crc xs : Int) % 256] rfl (sl_lit _ _ _ _ _ _ rfl rfl) ?e1 ?e2 ?_)
  case e1 => simp; omega
  case e2 => simp; omega
  intro g2 cap2 w2 ho2 hg2 hlt2
  have hb2 := HB.out.trans (((Below.refl _ w1).alloc hs1 _).trans (below_of_grown (B := w'.heap.size) hg2 (by simp; omega) (fun j e => by cases e; exact hbl.1)))
  have HO2 : Hid (OwB w'.heap.size w2 (.slice (some ⟨g2, 0, none⟩) (xs.length + 2) cap2) (sealL xs)) := ho2
  have HB2 := hid hb2
  clear ho2 hb2 hg2 HO HB
  go_wp2
  go_ret
  exact ⟨_, _, rfl, HO2.out, HB2.out⟩

theorem specSeal_calls (v : Value) (xs : List Int) (w : World) (h : Sl .u8 w v xs) (hx : BytesL xs) :
    Calls Tryd.prog 11 #[v] w fun e w' => ∃ v', e = .returned (.agg #[.int .i64 (seC xs), v']) ∧ OwB w.heap.size w' v' (seL xs) ∧ Below w.heap.size w w' := by
  have H := hid h
  obtain ⟨a, cap, rfl, _⟩ := h
  by_cases hm : 158 < xs.length
  · have h' : (158 : Int) < xs.length := by omega
    rw [show seC xs = 2 from if_pos hm, show seL xs = [] from if_pos hm]
    go_enter Tryd.func11, Tryd.ntmps11
    go_wp2
    exact bodyPost_ret (v := .agg #[.int .i64 2, .slice none 0 0]) (by simp [results, Tryd.results11, go_sem]) rfl ⟨_, rfl, World.ownsRow_nil _ _ _ _, (Below.refl _ _).alloc (Nat.le_refl _) _⟩
  · have h' : (xs.length : Int) ≤ 158 := by omega
    rw [show seC xs = 0 from if_neg hm, show seL xs = sealL xs from if_neg hm]
    go_enter Tryd.func11, Tryd.ntmps11
    go_wp2_with fail
    refine (l2Seal_calls _ xs _ (H.out.later (bmore (Below.refl _ _) _)) hx (by omega)).mono ?_
    rintro e w1 ⟨g1, cap1, rfl, ho1, hb1⟩
    have c0 := hb1.cell (p := ⟨w.heap.size, 0, none⟩) (by simp)
    have c1 := hb1.cell (p := ⟨w.heap.size, 1, none⟩) (by simp)
    have f0 := hb1.frozen (p := ⟨w.heap.size, 0, none⟩) (by simp)
    have f1 := hb1.frozen (p := ⟨w.heap.size, 1, none⟩) (by simp)
    have HO : Hid (OwB (w.heap.size + 1) w1 (.slice (some ⟨g1, 0, none⟩) (xs.length + 2) cap1) (sealL xs)) := hid (by simpa using ho1)
    have HB := hid (bthen (bmore (Below.refl _ w) (.cells #[.int .i64 0, .slice none 0 0] 27)) hb1)
    clear ho1 hb1
    go_wp2
    exact bodyPost_ret (v := .agg #[.int .i64 0, .slice (some ⟨g1, 0, none⟩) (xs.length + 2) cap1]) (by simp [results, Tryd.results11, go_sem, c0, c1]) rfl ⟨_, rfl, HO.out.set2 _ _, below_set2 HB.out _ _⟩
end Go.Proofs.YtlljdehjlbmgcaaDoor.Seal
