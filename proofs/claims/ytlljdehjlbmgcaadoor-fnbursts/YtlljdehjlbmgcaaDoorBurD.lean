/- What FnBursts draws: a list of bytes, in new memory, and two numbers. Conditions: a right source, not too many numbers. -/
import Derived.Test.YtlljdehjlbmgcaaDoorSealD
namespace Go.Proofs.YtlljdehjlbmgcaaDoor.BurD
open Go.ChangeShapes Go.WideShapes Go.ChangeAt Go.RowKit Go.Proofs.YtlljdehjlbmgcaaDoor.Num Go.Proofs.YtlljdehjlbmgcaaDoor.Sli Go.Proofs.YtlljdehjlbmgcaaDoor.App Go.Proofs.YtlljdehjlbmgcaaDoor.Byt Go.Proofs.YtlljdehjlbmgcaaDoor.Src Go.Proofs.YtlljdehjlbmgcaaDoor.CrcM Go.Proofs.YtlljdehjlbmgcaaDoor.Crc Go.Proofs.YtlljdehjlbmgcaaDoor.SealD

set_option maxRecDepth 100000 in
set_option maxHeartbeats 2000000 in
theorem drawFlip_calls (a : Option Addr) (cap : Nat) (bs : List Int) (w : World) (hsl : Sl .u8 w (.slice a bs.length cap) bs) (hbd : ∀ x ∈ bs, 0 ≤ x ∧ x ≤ 255) (hlen : bs.length ≤ 1048576) :
    Calls Tryd.prog 6 #[.slice a bs.length cap] w fun e w' => ∃ gl cl ys r1 r2, e = .returned (.tuple #[.slice (some ⟨gl, 0, none⟩) ys.length cl, .int .i64 r1, .int .i64 r2]) ∧ OwB w.heap.size w' (.slice (some ⟨gl, 0, none⟩) ys.length cl) ys ∧ ys.length ≤ 161 ∧ BytesL ys ∧ Below w.heap.size w w' := by
  have HS := hid hsl
  have HB := hid hbd
  clear hsl hbd
  go_enter Tryd.func6, Tryd.ntmps6
  go_wp2_with fail
  refine (l1Source_calls a cap bs w w (Below.refl _ _) HS.out HB.out hlen).mono ?_
  rintro e w1 ⟨g, rfl, hs1, hg1⟩
  have hs1' := hid hs1
  have hw1 := hg1.size
  have hgl := src_lt hs1
  clear hs1 hg1 HS HB
  go_wp2_with fail
  refine (l1Pick_lit w _ g a cap bs _ 7 2 [0, 1, 2, 9, 20, 160, 161] _ hs1'.out (by omega) rfl rfl (by omega) (by omega)).mono ?_
  rintro e w2 ⟨r, rfl, hr, hs2, hg2⟩
  obtain ⟨n, hn, hn2⟩ : ∃ n : Nat, r = n ∧ n ≤ 161 := by
    simp only [List.mem_cons, List.not_mem_nil, or_false] at hr
    exact ⟨r.toNat, by omega, by omega⟩
  subst hn
  have hw2 := hg2.size
  simp at hw2
  have Hs2 := hid hs2
  clear hr hs2 hg2 hs1'
  go_wp2_with fail
  refine (l1Some_calls w _ g a cap bs _ n Hs2.out (by omega) (by omega)).mono ?_
  rintro e w3 ⟨gl, cl, ys, rfl, ho, hyl, hyb, hs3, hg3⟩
  subst hyl
  have hw3 := hg3.size
  have Ho := hid ho
  have Hs3 := hid hs3
  clear ho hs3 hg3 Hs2
  go_wp2_with fail
  refine (l1Next_any w _ g a cap bs _ _ Hs3.out (by omega) (by omega)).mono ?_
  rintro e w4 ⟨q1, rfl, _, _, hs4, hg4⟩
  have hw4 := hg4.size
  have Ho4 := hid (Ho.out.kept hg4 (fun j e => by cases e; omega))
  have Hs4 := hid hs4
  clear hs4 hg4 Ho Hs3
  go_wp2_with fail
  refine (l1Next_any w _ g a cap bs _ _ Hs4.out (by omega) (by omega)).mono ?_
  rintro e w5 ⟨q2, rfl, _, _, hs5, hg5⟩
  have hw5 := hg5.size
  have Ho5 := hid (Ho4.out.kept hg5 (fun j e => by cases e; omega))
  have Hs5 := hid hs5
  clear hs5 hg5 Ho4 Hs4
  go_wp2_with fail
  refine (l1Pick_lit w _ g a cap bs _ 7 2 [0, (ys.length : Int) * 8 - 1, (ys.length : Int) * 8 - 9, (ys.length : Int) * 8, -1, q1, q2] _ Hs5.out (by omega) rfl rfl (by omega) (by omega)).mono ?_
  rintro e w6 ⟨r1, rfl, _, hs6, hg6⟩
  have hw6 := hg6.size
  simp at hw6
  have Ho6 := hid ((Ho5.out.alloc _).kept hg6 (fun j e => by cases e; omega))
  have Hs6 := hid hs6
  clear hs6 hg6 Ho5 Hs5
  go_wp2_with fail
  refine (l1Next_calls w _ g a cap bs _ 65535 Hs6.out (by omega) (by omega) (by omega)).mono ?_
  rintro e w7 ⟨q3, rfl, hq3, hq3', hs7, hg7⟩
  have hw7 := hg7.size
  have Ho7 := hid (Ho6.out.kept hg7 (fun j e => by cases e; omega))
  have Hs7 := hid hs7
  clear hs7 hg7 Ho6 Hs6
  go_wp2_with fail
  refine (l1Next_calls w _ g a cap bs _ 65535 Hs7.out (by omega) (by omega) (by omega)).mono ?_
  rintro e w8 ⟨q4, rfl, hq4, hq4', hs8, hg8⟩
  have hw8 := hg8.size
  have Ho8 := hid (Ho7.out.kept hg8 (fun j e => by cases e; omega))
  have Hs8 := hid hs8
  clear hs8 hg8 Ho7 Hs7
  go_wp2_with fail
  refine (l1Pick_lit w _ g a cap bs _ 10 2 [1, 2, 3, 128, 65535, 32769, 65536, 0, 1 + q3, 1 + q4] _ Hs8.out (by omega) rfl rfl (by omega) (by omega)).mono ?_
  rintro e w9 ⟨r2, rfl, _, hs9, hg9⟩
  have Ho9 := hid (((Ho8.out.alloc _).kept hg9 (fun j e => by cases e; omega)).mono (base' := w.heap.size) (by omega))
  have Hb := hid hs9.2.1
  clear hs9 hg9 Ho8 Hs8
  go_wp2
  go_ret3
  exact ⟨gl, cl, ys, r1, r2, rfl, Ho9.out, hn2, hyb, Hb.out⟩
end Go.Proofs.YtlljdehjlbmgcaaDoor.BurD
