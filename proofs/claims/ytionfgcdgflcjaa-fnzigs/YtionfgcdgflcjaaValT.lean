/- The model's ClassSlot and SlotsOf; the laws' helpers over answers with a list of slots. -/
import Derived.Test.YtionfgcdgflcjaaValS
namespace Go.Proofs.Ytionfgcdgflcjaa.ValT
open Go.ChangeShapes Go.WideShapes Go.ChangeAt Go.RowKit Go.Proofs.Ytionfgcdgflcjaa.Num Go.Proofs.Ytionfgcdgflcjaa.Sli Go.Proofs.Ytionfgcdgflcjaa.App Go.Proofs.Ytionfgcdgflcjaa.Div Go.Proofs.Ytionfgcdgflcjaa.Dec Go.Proofs.Ytionfgcdgflcjaa.Blk Go.Proofs.Ytionfgcdgflcjaa.RangeM Go.Proofs.Ytionfgcdgflcjaa.SlS Go.Proofs.Ytionfgcdgflcjaa.ExL Go.Proofs.Ytionfgcdgflcjaa.SlA Go.Proofs.Ytionfgcdgflcjaa.ValZ Go.Proofs.Ytionfgcdgflcjaa.ValI Go.Proofs.Ytionfgcdgflcjaa.ValJ Go.Proofs.Ytionfgcdgflcjaa.ValK Go.Proofs.Ytionfgcdgflcjaa.ValS

theorem specClass_calls (c : Int) (w : World) :
    Calls Try.prog 17 #[.int .i64 c] w fun e w' => ∃ u, e = .returned (.agg #[.int .i64 (kC c), u]) ∧ OwS w.heap.size w' u (kL c) ∧ Below w.heap.size w w' := by
  cases h1 : inB 0 17 c
  · have M1 : Hid (kC c = 3) := by show _ = _; unfold kC; rw [if_neg (by rw [h1]; decide)]
    have M2 : Hid (kL c = []) := by show _ = _; unfold kL; rw [if_neg (by rw [h1]; decide)]
    go_enter Try.func17, Try.ntmps17
    go_wp2_with (first | (go_at_call 37; refine (l1In_calls _ _ _ _).mono ?_; rintro e w' ⟨rfl, rfl⟩))
    exact bodyPost_ret (v := .agg #[.int .i64 3, .slice none 0 0]) (by simp [results, Try.results17, go_sem]) rfl ⟨_, by rw [M1.out], by rw [M2.out]; exact owS_nil _ _, bmore (Below.refl _ _) _⟩
  · have M1 : Hid (kC c = 0) := by show _ = _; unfold kC; rw [if_pos h1]
    have M2 : Hid (kL c = [cSl c.toNat]) := by show _ = _; unfold kL; rw [if_pos h1]
    obtain ⟨b1, b2⟩ := of_inB h1
    obtain ⟨n, rfl⟩ := Int.eq_ofNat_of_zero_le b1
    rw [Int.toNat_natCast] at M2
    have HN := hid (Blk.new w #[.int .i64 0, .slice none 0 0] 30)
    have HB := hid (bmore (Below.refl w.heap.size w) (.cells #[.int .i64 0, .slice none 0 0] 30))
    have HS := hid (l4Class_calls n (w.alloc (.cells #[.int .i64 0, .slice none 0 0] 30)) (by omega))
    rw [World.size_alloc] at HS
    go_enter Try.func17, Try.ntmps17
    go_wp2_with (first | (go_at_call 37; refine (l1In_calls _ _ _ _).mono ?_; rintro e w' ⟨rfl, rfl⟩) | fail)
    refine HS.out.mono ?_
    rintro e w1 ⟨rfl, hb⟩
    have hsz : w.heap.size + 1 ≤ w1.heap.size := by simpa using hb.size
    have HZ := hid ((HN.out.below hb (by omega)).alloc (.cells #[.int .i64 (lwc n : Int), .int .i64 (shr n : Int), .int .i64 256] 34))
    have HO := hid (owS_set2 (owS_lit (w.heap.size + 1) w1 (lwc n : Int) (shr n : Int) 256 hsz) (.int .i64 0) (.slice (some ⟨w1.heap.size, 0, none⟩) 1 1))
    have HW := hid (below_set2 (bmore (HB.out.trans (hb.mono (by omega))) (.cells #[.int .i64 (lwc n : Int), .int .i64 (shr n : Int), .int .i64 256] 34)) (.int .i64 0) (.slice (some ⟨w1.heap.size, 0, none⟩) 1 1))
    obtain ⟨z0, z1, f0, f1⟩ := HZ.out.two
    have HE := hid ((HZ.out.set 0 (.int .i64 0)).set 1 (.slice (some ⟨w1.heap.size, 0, none⟩) 1 1))
    clear hb HS
    generalize hl : lwc n = l at *
    generalize hs : shr n = s at *
    have Hl : Hid (cSl n = ((l : Int), (s : Int), 256)) := by show _ = _; unfold cSl; rw [hl, hs]
    clear hl hs
    go_wp2
    obtain ⟨y0, y1, _⟩ := HE.out.two
    exact bodyPost_ret (v := .agg #[.int .i64 0, .slice (some ⟨w1.heap.size, 0, none⟩) 1 1]) (by simp [results, Try.results17, go_sem, y0, y1]) rfl ⟨_, by rw [M1.out], by rw [M2.out, Hl.out]; exact HO.out, HW.out⟩
theorem specSlots_calls (v : Int) (w : World) :
    Calls Try.prog 20 #[.int .i64 v] w fun e w' => ∃ u, e = .returned (.agg #[.int .i64 (sC v), u]) ∧ OwS w.heap.size w' u (sL v) ∧ Below w.heap.size w w' := by
  have HV := hid (l4Value_calls v)
  cases h1 : inB (-65535) 65535 v
  · have M1 : Hid (sC v = 3) := by show _ = _; unfold sC; rw [if_neg (by rw [h1]; decide)]
    have M2 : Hid (sL v = []) := by show _ = _; unfold sL; rw [if_neg (by rw [h1]; decide)]
    rw [h1] at HV
    go_enter Try.func20, Try.ntmps20
    go_wp2_with (first | (go_at_call 35; refine (HV.out _).mono ?_; rintro e w' ⟨rfl, rfl⟩))
    exact bodyPost_ret (v := .agg #[.int .i64 3, .slice none 0 0]) (by simp [results, Try.results20, go_sem]) rfl ⟨_, by rw [M1.out], by rw [M2.out]; exact owS_nil _ _, bmore (Below.refl _ _) _⟩
  · have M1 : Hid (sC v = 0) := by show _ = _; unfold sC; rw [if_pos h1]
    have M2 : Hid (sL v = zSl (zg v)) := by show _ = _; unfold sL; rw [if_pos h1]
    have HN := hid (Blk.new w #[.int .i64 0, .slice none 0 0] 30)
    have HB := hid (bmore (Below.refl w.heap.size w) (.cells #[.int .i64 0, .slice none 0 0] 30))
    have HS := hid (l4Slots_calls v (w.alloc (.cells #[.int .i64 0, .slice none 0 0] 30)) h1)
    rw [World.size_alloc] at HS
    rw [h1] at HV
    clear h1
    generalize zSl (zg v) = ls at *
    go_enter Try.func20, Try.ntmps20
    go_wp2_with (first | (go_at_call 35; refine (HV.out _).mono ?_; rintro e w' ⟨rfl, rfl⟩) | fail)
    refine HS.out.mono ?_
    rintro e w1 ⟨g, cap, rfl, ho, hb⟩
    have hsz : w.heap.size + 1 ≤ w1.heap.size := by simpa using hb.size
    have HZ := hid (HN.out.below hb (by omega))
    have HO := hid (owS_set2 ho (.int .i64 0) (.slice (some ⟨g, 0, none⟩) ls.length cap))
    have HW := hid (below_set2 (HB.out.trans (hb.mono (by omega))) (.int .i64 0) (.slice (some ⟨g, 0, none⟩) ls.length cap))
    obtain ⟨z0, z1, f0, f1⟩ := HZ.out.two
    have HE := hid ((HZ.out.set 0 (.int .i64 0)).set 1 (.slice (some ⟨g, 0, none⟩) ls.length cap))
    clear hb HS ho
    generalize ls.length = n at *
    go_wp2
    obtain ⟨y0, y1, _⟩ := HE.out.two
    exact bodyPost_ret (v := .agg #[.int .i64 0, .slice (some ⟨g, 0, none⟩) n cap]) (by simp [results, Try.results20, go_sem, y0, y1]) rfl ⟨_, by rw [M1.out], by rw [M2.out]; exact HO.out, HW.out⟩
end Go.Proofs.Ytionfgcdgflcjaa.ValT
