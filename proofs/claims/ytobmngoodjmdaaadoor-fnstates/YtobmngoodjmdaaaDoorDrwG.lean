/- Laps and frames that are drawn, right ones and bent ones. -/
import Derived.Test.YtobmngoodjmdaaaDoorDrwF
namespace Go.Proofs.YtobmngoodjmdaaaDoor.DrwG
open Go.ChangeShapes Go.WideShapes Go.ChangeAt Go.RowKit Go.Proofs.YtobmngoodjmdaaaDoor.Num Go.Proofs.YtobmngoodjmdaaaDoor.Sli Go.Proofs.YtobmngoodjmdaaaDoor.App Go.Proofs.YtobmngoodjmdaaaDoor.Samp Go.Proofs.YtobmngoodjmdaaaDoor.Blk Go.Proofs.YtobmngoodjmdaaaDoor.LapM Go.Proofs.YtobmngoodjmdaaaDoor.LapN Go.Proofs.YtobmngoodjmdaaaDoor.IntL Go.Proofs.YtobmngoodjmdaaaDoor.LapS Go.Proofs.YtobmngoodjmdaaaDoor.Src Go.Proofs.YtobmngoodjmdaaaDoor.Lists Go.Proofs.YtobmngoodjmdaaaDoor.Samples Go.Proofs.YtobmngoodjmdaaaDoor.Draws Go.Proofs.YtobmngoodjmdaaaDoor.DrwF

set_option maxRecDepth 100000 in
set_option maxHeartbeats 4000000 in
theorem drawFeed_calls (a : Option Addr) (cap : Nat) (bs : List Int) (w : World) (hsl : Sl .u8 w (.slice a bs.length cap) bs) (hbd : ∀ x ∈ bs, 0 ≤ x ∧ x ≤ 255) (hlen : bs.length ≤ 1048576) :
    Calls Tryd.prog 16 #[.slice a bs.length cap] w fun e w' => ∃ s u t half rest f fr, e = .returned (.tuple #[.agg #[.int .i64 s, u, t], f]) ∧ Sl .i64 w' u half ∧ Sl .i64 w' t rest ∧ Sl .i64 w' f fr ∧ Fits u ∧ Fits t ∧ Fits f ∧ (half.length ≤ 16 ∧ rest.length ≤ 16 ∧ fr.length ≤ 21) ∧ Below w.heap.size w w' := by
  have hb0 := bmore (Below.refl _ w) (.cells #[.int .i64 0, .slice none 0 0, .slice none 0 0] 29)
  have HS := hid (l1Source_calls a cap bs (w.alloc (.cells #[.int .i64 0, .slice none 0 0, .slice none 0 0] 29)) (w.alloc (.cells #[.int .i64 0, .slice none 0 0, .slice none 0 0] 29)) (Below.refl _ _) (hsl.later hb0) hbd hlen)
  have HR := hid (Blk.new w #[.int .i64 0, .slice none 0 0, .slice none 0 0] 29)
  have HB := hid hb0
  have hsz0 : (w.alloc (.cells #[.int .i64 0, .slice none 0 0, .slice none 0 0] 29)).heap.size = w.heap.size + 1 := World.size_alloc _ _
  clear hsl hbd hlen hb0
  go_enter Tryd.func16, Tryd.ntmps16
  go_wp2_with fail
  generalize w.alloc (.cells #[.int .i64 0, .slice none 0 0, .slice none 0 0] 29) = w1 at *
  refine HS.out.mono ?_
  rintro e w2 ⟨g, rfl, hs2, hz2⟩
  have Hs2 := hid hs2
  clear hs2 HS
  have hg2 := src_lt Hs2.out
  have hgw : w1.heap.size ≤ g := Hs2.out.1
  go_wp2_with fail
  refine (l7Bent_calls w1 _ g a cap bs _ Hs2.out (by omega)).mono ?_
  rintro e w3 ⟨s, u, t, half, rest, at2, rfl, hu, ht, fu, ft, hl, hat2, hs3, hg3⟩
  obtain ⟨au, cu, rfl, -⟩ := id hu
  obtain ⟨av, cv, rfl, -⟩ := id ht
  have ha := bmore (Below.refl w3.heap.size w3) (.cells #[.int .i64 s, .slice au half.length cu, .slice av rest.length cv] 29)
  have HU4 := hid (hu.kept (grown_below (r := none) ha) (fun _ e => by cases e))
  have HT4 := hid (ht.kept (grown_below (r := none) ha) (fun _ e => by cases e))
  have HL4 := hid (Blk.new w3 #[.int .i64 s, .slice au half.length cu, .slice av rest.length cv] 29)
  have HS4 := hid (src_grown (row := none) hs3 (grown_below ha) (fun _ e => by cases e))
  have hz3 := hg3.size
  have Hf := hid (And.intro fu ft)
  have Hl := hid hl
  have Hat := hid hat2
  clear hu ht fu ft hl hat2 hs3 hg3 ha Hs2
  go_wp2_with fail
  have hL4 : w3.heap.size < (w3.alloc (.cells #[.int .i64 s, .slice au half.length cu, .slice av rest.length cv] 29)).heap.size := by simp
  generalize (w3.alloc (.cells #[.int .i64 s, .slice au half.length cu, .slice av rest.length cv] 29)) = w4 at *
  have hLR : w3.heap.size ≠ w.heap.size := by omega
  have hLg : w3.heap.size ≠ g := by omega
  generalize w3.heap.size = L at *
  obtain ⟨l0, l1, l2, _⟩ := HL4.out.three
  have hS0 : w4.drew.cell? ⟨L, 0, none⟩ = some (.int .i64 s) ∧ w4.drew.cell? ⟨L, 1, none⟩ = some (.slice au half.length cu) ∧ w4.drew.cell? ⟨L, 2, none⟩ = some (.slice av rest.length cv) := ⟨l0, l1, l2⟩
  have HSd := hid (DrwF.src_drew HS4.out)
  refine wp_region_noPanic ?_
  refine wp_region_held_drew (S := fun V => V.cell? ⟨L, 0, none⟩ = some (.int .i64 s) ∧ V.cell? ⟨L, 1, none⟩ = some (.slice au half.length cu) ∧ V.cell? ⟨L, 2, none⟩ = some (.slice av rest.length cv)) (by kernel_rfl) (by first | exact hS10 | exact hS9 | exact hS0) (fun hHeld => ?_)
  (refine wpAnyH_take (i := 0) (v := ?_) rfl (by kernel_rfl) (by kernel_rfl) (by kernel_rfl) (fun _ _ _ h => h) (Or.inl ⟨by rfl, ?_⟩) hHeld ?_; rotate_left; (intro w hSw; (obtain ⟨s0, s1, s2⟩ := hSw); (go_simp <;> with_reducible rfl)); simp only [List.getElem_toArray, List.getElem_cons_zero, Act.put, List.setIfInBounds_toArray, List.set_cons_zero, List.set_cons_succ])
  (refine wpAnyH_take (i := 1) (v := ?_) rfl (by kernel_rfl) (by kernel_rfl) (by kernel_rfl) (fun _ _ _ h => h) (Or.inl ⟨by rfl, ?_⟩) hHeld ?_; rotate_left; (intro w hSw; (obtain ⟨s0, s1, s2⟩ := hSw); (go_simp <;> with_reducible rfl)); simp only [List.getElem_toArray, List.getElem_cons_zero, List.getElem_cons_succ, Act.put, List.setIfInBounds_toArray, List.set_cons_zero, List.set_cons_succ])
  (refine wpAnyH_take (i := 2) (v := ?_) rfl (by kernel_rfl) (by kernel_rfl) (by kernel_rfl) (fun _ _ _ h => h) (Or.inl ⟨by rfl, ?_⟩) hHeld ?_; rotate_left; (intro w hSw; (obtain ⟨s0, s1, s2⟩ := hSw); (go_simp <;> with_reducible rfl)); simp only [List.getElem_toArray, List.getElem_cons_zero, List.getElem_cons_succ, Act.put, List.setIfInBounds_toArray, List.set_cons_zero, List.set_cons_succ])
  (refine wpAnyH_take (i := 3) (v := ?_) rfl (by kernel_rfl) (by kernel_rfl) (by kernel_rfl) (fun _ _ _ h => h) (Or.inl ⟨by rfl, ?_⟩) hHeld ?_; rotate_left; (intro w hSw; (obtain ⟨s0, s1, s2⟩ := hSw); (go_simp <;> with_reducible rfl)); simp only [List.getElem_toArray, List.getElem_cons_zero, List.getElem_cons_succ, Act.put, List.setIfInBounds_toArray, List.set_cons_zero, List.set_cons_succ])
  refine wpAnyH_ready (rs := [4]) (by kernel_rfl) (by simp) ?_
  refine (AllReadyH.cons rfl (fun K hK => ?_) AllReadyH.nil)
  go_simp
  (refine (l1BentSamples_calls w1 w4.drew g a cap bs _ s HSd.out (by have := Hat.out; omega)).mono ?_; rintro e W9 ⟨gl, cl, ys, at3, rfl, ho9, hy9, _, hs9, hg9⟩; have ho9' : OwI w4.drew.heap.size W9 (.slice (some ⟨gl, 0, none⟩) ys.length cl) ys := ho9; have hL9 := Blk.kept (show Blk w4.drew L _ _ from HL4.out) hg9 (by simp; omega); have hS9 := And.intro hL9.three.1 (And.intro hL9.three.2.1 hL9.three.2.2.1); have hR9 := HR.out.later hs9.2.1; obtain ⟨r0, r1, r2, f0, f1, f2⟩ := hR9.three; have hU9 := Sx.kept (w := w4.drew) HU4.out hg9 (fun j e => by cases e; omega); have hT9 := Sx.kept (w := w4.drew) HT4.out hg9 (fun j e => by cases e; omega))
  refine hK.out _ _ (by first | exact hS10 | exact hS9 | exact hS0) (fun hHeld => ?_)
  clear hK K
  try dsimp only
  refine wpAnyH_ready (rs := [5]) (by kernel_rfl) (by simp) ?_
  refine (AllReadyH.cons rfl (fun K hK => ?_) AllReadyH.nil)
  go_simp
  (have hL10 := ((hL9.other (b' := w.heap.size) (Ne.symm hLR) 0 (.int .i64 s)).other (b' := w.heap.size) (Ne.symm hLR) 1 (.slice au half.length cu)).other (b' := w.heap.size) (Ne.symm hLR) 2 (.slice av rest.length cv); have hS10 := And.intro hL10.three.1 (And.intro hL10.three.2.1 hL10.three.2.2.1))
  refine hK.out _ _ (by first | exact hS10 | exact hS9 | exact hS0) (fun hHeld => ?_)
  clear hK K
  try simp only [List.getElem_toArray, List.getElem_cons_zero, List.getElem_cons_succ, Act.put, List.setIfInBounds_toArray, List.set_cons_zero, List.set_cons_succ]
  (refine wpAnyH_take (i := 6) (v := ?_) rfl (by kernel_rfl) (by kernel_rfl) (by kernel_rfl) (fun _ _ _ h => h) (Or.inl ⟨by rfl, ?_⟩) hHeld ?_; rotate_left; (intro w hSw; (obtain ⟨s0, s1, s2⟩ := hSw); (go_simp <;> with_reducible rfl)); simp only [List.getElem_toArray, List.getElem_cons_zero, List.getElem_cons_succ, Act.put, List.setIfInBounds_toArray, List.set_cons_zero, List.set_cons_succ])
  refine wpAnyH_done (by kernel_rfl) ?_ _
  refine NoPanic.normal ?_
  have hg10 := grown_set3 W9 w.heap.size (.int .i64 s) (.slice au half.length cu) (.slice av rest.length cv)
  have HU10 := hid (hU9.kept hg10 (fun j e => by cases e; omega)).sl
  have HT10 := hid (hT9.kept hg10 (fun j e => by cases e; omega)).sl
  have HF10 := hid (ho9'.over (show w.heap.size < w4.heap.size by omega) hg10)
  have HB10 := hid (below_cell (below_cell (below_cell (bthen HB.out hs9.2.1) (Nat.le_refl _) 0 (.int .i64 s)) (Nat.le_refl _) 1 (.slice au half.length cu)) (Nat.le_refl _) 2 (.slice av rest.length cv))
  clear hL9 hL10 hS0 hS9 hS10 hR9 hU9 hT9 ho9 ho9' hs9 hg9 hg10 HL4 HSd HS4 HU4 HT4 HR
  go_wp2
  exact bodyPost_ret (v := .tuple #[.agg #[.int .i64 s, .slice au half.length cu, .slice av rest.length cv], .slice (some ⟨gl, 0, none⟩) ys.length cl]) (by simp [results, Tryd.results16, go_sem, r0, r1, r2]) rfl ⟨_, _, _, half, rest, _, ys, rfl, HU10.out, HT10.out, HF10.out.sl, Hf.out.1, Hf.out.2, HF10.out.fits, ⟨Hl.out.1, Hl.out.2.1, hy9⟩, HB10.out⟩
end Go.Proofs.YtobmngoodjmdaaaDoor.DrwG
