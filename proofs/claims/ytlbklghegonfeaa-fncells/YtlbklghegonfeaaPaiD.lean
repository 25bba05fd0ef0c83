/- What the laws of one index for two paths draw: an index or a number, a spread, turned or not, a side. Conditions: those of the source. -/
import Derived.Test.YtlbklghegonfeaaSrc
import Derived.Test.YtlbklghegonfeaaLists
import Derived.Test.YtlbklghegonfeaaPaiS
import Derived.OwnWalk
namespace Go.Proofs.Ytlbklghegonfeaa.PaiD
open Go.ChangeShapes Go.WideShapes Go.ChangeAt Go.RowKit Go.Proofs.Ytlbklghegonfeaa.Num Go.Proofs.Ytlbklghegonfeaa.Sli Go.Proofs.Ytlbklghegonfeaa.Src Go.Proofs.Ytlbklghegonfeaa.HalM Go.Proofs.Ytlbklghegonfeaa.PaiM Go.Proofs.Ytlbklghegonfeaa.PaiS

theorem src_later {w0 w w' : World} {g : Nat} {a : Option Addr} {cap : Nat} {bs : List Int} {at' : Nat} (h : Src w0 w g a cap bs at') (hb : Below w.heap.size w w') : Src w0 w' g a cap bs at' := by
  have hlt := src_lt h
  obtain ⟨h1, h2, h3, h4, h5, h6⟩ := h
  exact ⟨h1, bthen h2 hb, h3, h4, h5, (hb.block g hlt).trans h6⟩
/-- Four results. -/
theorem results_tmp4 {fn : Func} {t u v x : Tmp} (h : fn.results = #[.tmp t, .tmp u, .tmp v, .tmp x]) (tmps : Array Value) (P : Program) (w : World) :
    (results fn tmps).run P w = .ok (.tuple #[tmps.getD t undef, tmps.getD u undef, tmps.getD v undef, tmps.getD x undef]) w := by
  simp [results, h, go_sem]
set_option maxHeartbeats 1000000 in
theorem l10Draw_calls (w0 w : World) (g : Nat) (a : Option Addr) (cap : Nat) (bs : List Int) (at' : Nat) (h : Src w0 w g a cap bs at') (hat : at' ≤ 50000) :
    Calls Try.prog 35 #[.pointer (some ⟨g, 0, none⟩)] w fun e w' => ∃ x : Int, e = .returned (.int .i64 x) ∧ (-30000 ≤ x ∧ x ≤ 30000) ∧ Src w0 w' g a cap bs (at' + 5) := by
  have H := hid h
  clear h
  go_enter Try.func35, Try.ntmps35
  go_wp2_with fail
  refine (l1Signed_calls w0 _ g a cap bs _ _ H.out (by omega) (by omega) (by omega)).mono ?_
  rintro e w1 ⟨r1, rfl, a1, b1, hs1, _⟩
  have HS1 := hid hs1
  clear hs1 H
  go_wp2_with fail
  refine (l1Signed_calls w0 _ g a cap bs _ _ HS1.out (by omega) (by omega) (by omega)).mono ?_
  rintro e w2 ⟨r2, rfl, a2, b2, hs2, _⟩
  have HS2 := hid hs2
  clear hs2 HS1
  go_wp2_with fail
  refine (l1Signed_calls w0 _ g a cap bs _ _ HS2.out (by omega) (by omega) (by omega)).mono ?_
  rintro e w3 ⟨r3, rfl, a3, b3, hs3, _⟩
  have HS3 := hid hs3
  clear hs3 HS2
  go_wp2_with fail
  refine (l1Signed_calls w0 _ g a cap bs _ _ HS3.out (by omega) (by omega) (by omega)).mono ?_
  rintro e w4 ⟨r4, rfl, a4, b4, hs4, _⟩
  have HS4 := hid hs4
  clear hs4 HS3
  go_wp2_with fail
  refine (l1Pick_lit w0 _ g a cap bs _ 10 2 [0, 1, -1, 2, r1, r2, r3, r4, 30000, -30000] _ HS4.out (by omega) rfl rfl (by omega) (by omega)).mono ?_
  rintro e w5 ⟨r5, rfl, hm, hs5, _⟩
  have HB : Hid (-30000 ≤ r5 ∧ r5 ≤ 30000) := by
    simp at hm
    show _ ∧ _
    omega
  have HS5 := hid hs5
  clear hs5 HS4 hm
  go_wp2
  go_ret
  exact ⟨_, rfl, HB.out, HS5.out⟩
set_option maxHeartbeats 1000000 in
theorem drawSplitIndex_calls (a : Option Addr) (cap : Nat) (bs : List Int) (w0 : World) (hsl : Sl .u8 w0 (.slice a bs.length cap) bs) (hbd : ∀ x ∈ bs, 0 ≤ x ∧ x ≤ 255) (hlen : bs.length ≤ 1048576) :
    Calls Try.prog 28 #[.slice a bs.length cap] w0 fun e w' => ∃ (q k : Int) (t : Bool), e = .returned (.tuple #[.int .i64 q, .int .i64 k, .bool t]) ∧ (-30001 ≤ q ∧ q ≤ 30001) ∧ Below w0.heap.size w0 w' := by
  have H := hid (l1Source_calls a cap bs w0 w0 (Below.refl _ _) hsl hbd hlen)
  clear hsl hbd hlen
  go_enter Try.func28, Try.ntmps28
  go_wp2_with fail
  refine H.out.mono ?_
  rintro e w1 ⟨g, rfl, hs1, _⟩
  have Hs1 := hid hs1
  clear hs1 H
  go_wp2_with fail
  refine (l10Draw_calls w0 _ g a cap bs _ Hs1.out (by omega)).mono ?_
  rintro e w2 ⟨r1, rfl, b1, hs2⟩
  have Hs2 := hid hs2
  clear hs2 Hs1
  go_wp2_with fail
  refine (l10Draw_calls w0 _ g a cap bs _ Hs2.out (by omega)).mono ?_
  rintro e w3 ⟨r2, rfl, b2, hs3⟩
  have Hs3 := hid hs3
  clear hs3 Hs2
  go_wp2_with fail
  refine (l10Draw_calls w0 _ g a cap bs _ Hs3.out (by omega)).mono ?_
  rintro e w4 ⟨r3, rfl, b3, hs4⟩
  have Hs4 := hid hs4
  clear hs4 Hs3
  go_wp2_with fail
  refine (l1Pick_lit w0 _ g a cap bs _ 4 2 [r1, r2, r3, 30001] _ Hs4.out (by omega) rfl rfl (by omega) (by omega)).mono ?_
  rintro e w5 ⟨q, rfl, hm, hs5, _⟩
  have HB : Hid (-30001 ≤ q ∧ q ≤ 30001) := by
    simp at hm
    show _ ∧ _
    omega
  have Hs5 := hid hs5
  clear hs5 Hs4 hm b1 b2 b3
  go_wp2_with fail
  refine (l1Pick_lit w0 _ g a cap bs _ 9 2 [0, 1, 2, 1, 2, 1, 2, 3, -1] _ Hs5.out (by omega) rfl rfl (by omega) (by omega)).mono ?_
  rintro e w6 ⟨k, rfl, _, hs6, _⟩
  have Hs6 := hid hs6
  clear hs6 Hs5
  go_wp2_with fail
  refine (l1Chance_calls w0 _ g a cap bs _ _ Hs6.out (by omega) (by omega) (by omega)).mono ?_
  rintro e w7 ⟨t, rfl, hs7, _⟩
  have Hb := hid hs7.2.1
  clear hs7 Hs6
  go_wp2
  go_ret3
  exact ⟨_, _, _, rfl, HB.out, Hb.out⟩
set_option maxHeartbeats 1000000 in
theorem drawSideIndex_calls (a : Option Addr) (cap : Nat) (bs : List Int) (w0 : World) (hsl : Sl .u8 w0 (.slice a bs.length cap) bs) (hbd : ∀ x ∈ bs, 0 ≤ x ∧ x ≤ 255) (hlen : bs.length ≤ 1048576) :
    Calls Try.prog 13 #[.slice a bs.length cap] w0 fun e w' => ∃ (s q k : Int) (t : Bool), e = .returned (.tuple #[.int .i64 s, .int .i64 q, .int .i64 k, .bool t]) ∧ Below w0.heap.size w0 w' := by
  have H := hid (l1Source_calls a cap bs w0 w0 (Below.refl _ _) hsl hbd hlen)
  have HD := hid (fun w1 (hb : Below w0.heap.size w0 w1) => drawSplitIndex_calls a cap bs w1 (hsl.later hb) hbd hlen)
  clear hsl hbd hlen
  go_enter Try.func13, Try.ntmps13
  go_wp2_with fail
  refine H.out.mono ?_
  rintro e w1 ⟨g, rfl, hs1, _⟩
  have Hs1 := hid hs1
  clear hs1 H
  go_wp2_with fail
  refine (HD.out _ Hs1.out.2.1).mono ?_
  rintro e w2 ⟨q, k, t, rfl, _, hb2⟩
  have Hs2 := hid (src_later Hs1.out hb2)
  clear hb2 Hs1 HD
  go_wp2_with fail
  refine (l1Pick_lit w0 _ g a cap bs _ 8 2 [0, 1, 0, 1, 0, 1, 2, -1] _ Hs2.out (by omega) rfl rfl (by omega) (by omega)).mono ?_
  rintro e w3 ⟨s, rfl, _, hs3, _⟩
  have Hb := hid hs3.2.1
  clear hs3 Hs2
  go_wp2
  (try simp only [Exit.inBlock, Exit.then]); refine bodyPost_ret (results_tmp4 rfl _ _ _) rfl ?_
  exact ⟨_, _, _, _, rfl, Hb.out⟩
theorem drawCellOf_calls (a : Option Addr) (cap : Nat) (bs : List Int) (w0 : World) (hsl : Sl .u8 w0 (.slice a bs.length cap) bs) (hbd : ∀ x ∈ bs, 0 ≤ x ∧ x ≤ 255) (hlen : bs.length ≤ 1048576) :
    Calls Try.prog 5 #[.slice a bs.length cap] w0 fun e w' => ∃ (s q k : Int) (t : Bool), e = .returned (.tuple #[.int .i64 s, .int .i64 q, .int .i64 k, .bool t]) ∧ Below w0.heap.size w0 w' := by
  have HD := hid (drawSideIndex_calls a cap bs w0 hsl hbd hlen)
  clear hsl hbd hlen
  go_enter Try.func5, Try.ntmps5
  go_wp2_with fail
  refine HD.out.mono ?_
  rintro e w2 ⟨s, q, k, t, rfl, hb2⟩
  have Hb := hid hb2
  clear hb2 HD
  go_wp2
  (try simp only [Exit.inBlock, Exit.then]); refine bodyPost_ret (results_tmp4 rfl _ _ _) rfl ?_
  exact ⟨_, _, _, _, rfl, Hb.out⟩
end Go.Proofs.Ytlbklghegonfeaa.PaiD
