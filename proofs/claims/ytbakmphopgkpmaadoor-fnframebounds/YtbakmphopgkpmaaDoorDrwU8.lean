/- The draw of a frame's bounds. Conditions: those of the source. -/
import Derived.Test.YtbakmphopgkpmaaDoorDrwS8
import Derived.Test.YtbakmphopgkpmaaDoorGe
namespace Go.Proofs.YtbakmphopgkpmaaDoor.DrwU8
open Go.ChangeShapes Go.WideShapes Go.ChangeAt Go.RowKit Go.Proofs.YtbakmphopgkpmaaDoor.Num Go.Proofs.YtbakmphopgkpmaaDoor.Sli Go.Proofs.YtbakmphopgkpmaaDoor.App Go.Proofs.YtbakmphopgkpmaaDoor.Src Go.Proofs.YtbakmphopgkpmaaDoor.DrwP Go.Proofs.YtbakmphopgkpmaaDoor.DrwS8 Go.Proofs.YtbakmphopgkpmaaDoor.IntL Go.Proofs.YtbakmphopgkpmaaDoor.IntA Go.Proofs.YtbakmphopgkpmaaDoor.HalM
open Go.Proofs.YtbakmphopgkpmaaDoor.Lists (grown_alloc src_grown)
open Go.Proofs.YtbakmphopgkpmaaDoor.Draws (l1Min_calls l1BentSize_calls)
/-- A list above block g stays while g turns. -/
theorem keep_above {base : Nat} {W W' : World} {g gl n cl : Nat} {ys : List Int} (h : OwI base W (.slice (some ⟨gl, 0, none⟩) n cl) ys) (hl : g < base) (hg : W.grownBy W' (some g)) : OwI base W' (.slice (some ⟨gl, 0, none⟩) n cl) ys := by
  have hb := h.block gl rfl
  exact Ow.keptNe h hg (fun j e => by cases e; simp [Value.ownBlock]; omega)
set_option maxHeartbeats 2000000 in
theorem drawFrameBounds_calls (a : Option Addr) (cap : Nat) (bs : List Int) (w : World) (hsl : Sl .u8 w (.slice a bs.length cap) bs) (hbd : ∀ x ∈ bs, 0 ≤ x ∧ x ≤ 255) (hlen : bs.length ≤ 1048576) :
    Calls Tryd.prog 28 #[.slice a bs.length cap] w fun e w' => ∃ (r : Int) (g1 c1 n1 g2 c2 n2 g3 c3 n3 : Nat) (B1 B2 B3 : List Int), e = .returned (.tuple #[.int .i64 r, .slice (some ⟨g1, 0, none⟩) n1 c1, .slice (some ⟨g2, 0, none⟩) n2 c2, .slice (some ⟨g3, 0, none⟩) n3 c3]) ∧
      OwI w.heap.size w' (.slice (some ⟨g1, 0, none⟩) n1 c1) B1 ∧ OwI w.heap.size w' (.slice (some ⟨g2, 0, none⟩) n2 c2) B2 ∧ OwI w.heap.size w' (.slice (some ⟨g3, 0, none⟩) n3 c3) B3 ∧ (n1 = B1.length ∧ n2 = B2.length ∧ n3 = B3.length) ∧ (n1 ≤ 20 ∧ n2 ≤ 20 ∧ n3 ≤ 20) ∧ Below w.heap.size w w' := by
  have H := hid (l1Source_calls a cap bs w w (Below.refl _ _) hsl hbd hlen)
  clear hsl hbd
  go_enter Tryd.func28, Tryd.ntmps28
  go_wp2_with fail
  refine H.out.mono ?_
  rintro e w1 ⟨g, rfl, hs1, _⟩
  have Hs1 := hid hs1
  clear hs1 H
  go_wp2_with fail
  refine (l1BentSize_calls w _ g a cap bs _ Hs1.out (by omega)).mono ?_
  rintro e w2 ⟨r, rfl, hr, hs2, _⟩
  have Hs2 := hid hs2
  have hm : 0 ≤ min r 20 ∧ min r 20 ≤ 20 := by simp at hr; omega
  obtain ⟨n, hn⟩ := Int.eq_ofNat_of_zero_le hm.1
  have hn20 : n ≤ 20 := by omega
  have HM := hid (fun W => l1Min_calls r 20 W)
  rw [hn] at HM
  clear hs2 hr Hs1 hm hn
  go_wp2_with fail
  refine (HM.out _).mono ?_
  rintro e w2' ⟨rfl, rfl⟩
  go_wp2_with fail
  refine (l8List_calls w _ g a cap bs _ n Hs2.out (by omega) (by omega)).mono ?_
  rintro e w3 ⟨g1, c1, B1, at1, rfl, _, ha1, hd⟩
  have HD1 := hid hd
  clear hd Hs2 HM
  go_wp2_with fail
  refine (l8List_calls w _ g a cap bs _ n HD1.out.s (by omega) (by omega)).mono ?_
  rintro e w4 ⟨g2, c2, B2, at2, rfl, _, ha2, hd⟩
  have HO1 := hid (keep_above HD1.out.o HD1.out.lt hd.gr)
  have HN1 := hid (And.intro HD1.out.n (And.intro HD1.out.lt HD1.out.le))
  have HD2 := hid hd
  clear hd HD1
  go_wp2_with fail
  refine (l1Pick_lit w _ g a cap bs _ 7 2 [(n : Int), n, n, n, n, n, 4] _ HD2.out.s (by omega) rfl rfl (by omega) (by omega)).mono ?_
  rintro e w5 ⟨q, rfl, hq, hs5, hg5⟩
  have hq0 : 0 ≤ q ∧ q ≤ 20 := by simp at hq; omega
  obtain ⟨m, rfl⟩ := Int.eq_ofNat_of_zero_le hq0.1
  have hm20 : m ≤ 20 := by omega
  have HD5 := hid ((HD2.out.alloc (.cells #[.int .i64 n, .int .i64 n, .int .i64 n, .int .i64 n, .int .i64 n, .int .i64 n, .int .i64 4] 2)).next hs5 hg5)
  have HO5 := hid (keep_above (HO1.out.alloc (.cells #[.int .i64 n, .int .i64 n, .int .i64 n, .int .i64 n, .int .i64 n, .int .i64 n, .int .i64 4] 2)) HN1.out.2.1 hg5)
  clear hs5 hg5 hq hq0 HD2 HO1
  go_wp2_with fail
  refine (l8List_calls w _ g a cap bs _ m HD5.out.s (by omega) (by omega)).mono ?_
  rintro e w6 ⟨g3, c3, B3, at3, rfl, _, ha3, hd⟩
  have HF1 := hid (App.Ow.mono (keep_above HO5.out HN1.out.2.1 hd.gr) HN1.out.2.2)
  have HF2 := hid (App.Ow.mono (keep_above HD5.out.o HD5.out.lt hd.gr) HD5.out.le)
  have HF3 := hid (App.Ow.mono hd.o hd.le)
  have HNn := hid (And.intro HN1.out.1 (And.intro HD5.out.n hd.n))
  have HB := hid hd.s.2.1
  clear hd HD5 HO5 HN1
  go_wp2
  exact bodyPost_ret (v := .tuple #[.int .i64 r, .slice (some ⟨g1, 0, none⟩) n c1, .slice (some ⟨g2, 0, none⟩) n c2, .slice (some ⟨g3, 0, none⟩) m c3]) (by simp [results, Tryd.results28, go_sem]) rfl ⟨r, g1, c1, n, g2, c2, n, g3, c3, m, B1, B2, B3, rfl, HF1.out, HF2.out, HF3.out, HNn.out, ⟨hn20, hn20, hm20⟩, HB.out⟩
end Go.Proofs.YtbakmphopgkpmaaDoor.DrwU8
