/- What FnTens draws: a number, a list of numbers, a size and a list. Each list is new memory. -/
import Derived.Test.YtobmngoodjmdaaaDoorSamples
namespace Go.Proofs.YtobmngoodjmdaaaDoor.Draws
open Go.ChangeShapes Go.WideShapes Go.ChangeAt Go.RowKit Go.Proofs.YtobmngoodjmdaaaDoor.Num Go.Proofs.YtobmngoodjmdaaaDoor.Sli Go.Proofs.YtobmngoodjmdaaaDoor.Src Go.Proofs.YtobmngoodjmdaaaDoor.Lists Go.Proofs.YtobmngoodjmdaaaDoor.Samples

theorem own_cell {base : Nat} {w : World} {g cap : Nat} {ys : List Int} (h : Own base w g cap ys) (i : Nat) (hi : i < ys.length) : w.cell? ⟨g, i, none⟩ = some (.int .i64 (ys.getD i 0)) := by
  have h' : w.ownsRow base 2 1 (.slice (some ⟨g, 0, none⟩) ys.length cap) ys.length (ys.map (Value.int .i64)) := h
  rw [h'.cellAt i (by omega)]
  simp [hi]
theorem own_frozen {base : Nat} {w : World} {g cap : Nat} {ys : List Int} (h : Own base w g cap ys) (i : Nat) : w.frozen? ⟨g, i, none⟩ = false := by
  have h' : w.ownsRow base 2 1 (.slice (some ⟨g, 0, none⟩) ys.length cap) ys.length (ys.map (Value.int .i64)) := h
  exact h'.frozenAt i
theorem own_set {base : Nat} {w : World} {g cap : Nat} {ys : List Int} (h : Own base w g cap ys) (i : Nat) (x : Int) : Own base (w.setCell ⟨g, i, none⟩ (.int .i64 x)) g cap (ys.set i x) ∧ w.grownBy (w.setCell ⟨g, i, none⟩ (.int .i64 x)) (some g) := by
  have h' : w.ownsRow base 2 1 (.slice (some ⟨g, 0, none⟩) ys.length cap) ys.length (ys.map (Value.int .i64)) := h
  have := h'.stored i (.int .i64 x)
  refine ⟨?_, this.2⟩
  unfold Own
  rw [List.length_set, List.map_set]
  exact this.1

theorem l1Min_calls (a b : Int) (w : World) :
    Calls Tryd.prog 61 #[.int .i64 a, .int .i64 b] w fun e w' => e = .returned (.int .i64 (min a b)) ∧ w' = w := by
  by_cases h : a < b
  · have H : Hid (min a b = a) := Int.min_eq_left (by omega)
    go_enter Tryd.func61, Tryd.ntmps61
    go_wp2
    go_ret
    exact ⟨ret_int H.out.symm, rfl⟩
  · have H : Hid (min a b = b) := Int.min_eq_right (by omega)
    go_enter Tryd.func61, Tryd.ntmps61
    go_wp2
    go_ret
    exact ⟨ret_int H.out.symm, rfl⟩
theorem l1Max_calls (a b : Int) (w : World) :
    Calls Tryd.prog 62 #[.int .i64 a, .int .i64 b] w fun e w' => e = .returned (.int .i64 (max a b)) ∧ w' = w := by
  by_cases h : b < a
  · have H : Hid (max a b = a) := Int.max_eq_left (by omega)
    go_enter Tryd.func62, Tryd.ntmps62
    go_wp2
    go_ret
    exact ⟨ret_int H.out.symm, rfl⟩
  · have H : Hid (max a b = b) := Int.max_eq_right (by omega)
    go_enter Tryd.func62, Tryd.ntmps62
    go_wp2
    go_ret
    exact ⟨ret_int H.out.symm, rfl⟩

theorem l1BentSize_calls (w0 w : World) (g : Nat) (a : Option Addr) (cap : Nat) (bs : List Int) (at' : Nat) (h : Src w0 w g a cap bs at') (hat : at' ≤ 100000) :
    Calls Tryd.prog 93 #[.pointer (some ⟨g, 0, none⟩)] w fun e w' => ∃ r : Int, e = .returned (.int .i64 r) ∧ r ∈ [4, 8, 16, 8, 4, 8, 16, 8, 4, 8, 16, 8, 0, 5, 32] ∧ Src w0 w' g a cap bs (at' + 1) ∧ w.grownBy w' (some g) := by
  have H := hid h
  have hgw := src_lt h
  clear h
  go_enter Tryd.func93, Tryd.ntmps93
  go_wp2_with fail
  refine (l1Pick_lit w0 _ g a cap bs _ 15 2 [4, 8, 16, 8, 4, 8, 16, 8, 4, 8, 16, 8, 0, 5, 32] _ H.out (by omega) rfl rfl (by omega) (by omega)).mono ?_
  rintro e w2 ⟨r, rfl, hr, hs2, hg2⟩
  have HR := hid hr
  have HS := hid hs2
  have HG := hid (grown_then (grown_alloc w _ (some g)) hg2 (fun j e => Or.inl (by simpa using e.symm)))
  clear hr hs2 hg2
  go_wp2
  go_ret
  exact ⟨_, rfl, HR.out, HS.out, HG.out⟩

set_option maxHeartbeats 2000000 in
theorem l1BentSamples_calls (w0 w : World) (g : Nat) (a : Option Addr) (cap : Nat) (bs : List Int) (at' : Nat) (size : Int) (h : Src w0 w g a cap bs at') (hat : at' ≤ 5000) :
    Calls Tryd.prog 58 #[.pointer (some ⟨g, 0, none⟩), .int .i64 size] w fun e w' => ∃ gl cl ys at2, e = .returned (.slice (some ⟨gl, 0, none⟩) ys.length cl) ∧ Own w.heap.size w' gl cl ys ∧ ys.length ≤ 21 ∧ at2 ≤ at' + 40 ∧ Src w0 w' g a cap bs at2 ∧ w.grownBy w' (some g) := by
  obtain ⟨i0, hi, hz0, hz1, hz2⟩ := info_parts infoI
  have hgw := src_lt h
  have hw0 := h.2.1.size
  have H := hid h
  clear h
  obtain ⟨n, hn⟩ := Int.eq_ofNat_of_zero_le (show 0 ≤ min (max size 0) 20 by omega)
  have hn20 : n ≤ 20 := by omega
  have Hn := hid hn
  clear hn
  go_enter Tryd.func58, Tryd.ntmps58
  go_wp2_with fail
  refine (l1Max_calls _ _ _).mono ?_
  rintro e w1 ⟨rfl, hw1⟩
  have hw1' := hw1.symm
  subst hw1'
  clear hw1
  go_wp2_with fail
  refine (l1Min_calls _ _ _).mono ?_
  rw [Hn.out]
  rintro e w1 ⟨rfl, hw1⟩
  have hw1' := hw1.symm
  subst hw1'
  clear hw1 Hn
  go_wp2_with fail
  refine (l1Samples_calls w0 _ g a cap bs _ n H.out (by omega) hn20).mono ?_
  rintro e w2 ⟨gl, cl, ys, at2, rfl, ho2, hyl, _, hat2, hs2, hg2⟩
  have hle := ho2.le
  have hy20 : ys.length ≤ 20 := by omega
  have HO := hid ho2
  have HS := hid hs2
  have HG := hid hg2
  have hw2 := hg2.size
  clear ho2 hs2 hg2 H hyl
  go_wp2_with fail
  refine (l1Next_calls w0 _ g a cap bs _ _ HS.out (by omega) (by omega) (by omega)).mono ?_
  rintro e w3 ⟨kd, rfl, hk1, hk2, hs3, hg3⟩
  have HO3 := hid (HO.out.kept hg3 (ne_some (by omega)))
  have HG3 := hid (grown_then HG.out hg3 (fun j e => Or.inl (by simpa using e.symm)))
  have HS3 := hid hs3
  have hw3 := hg3.size
  clear hs3 hg3 HO HG HS
  rcases (show kd = 0 ∨ kd = 1 ∨ (kd ≠ 0 ∧ kd ≠ 1) by omega) with hkd | hkd | hkd
  · have b0 : (kd == 0) = true := beq_iff_eq.2 hkd
    clear hkd
    go_wp2_with (at_builtin; refine wpList_append_lies _ rfl _ _ 27 rfl w.heap.size 2 i0 (.int .i64 0) 1 8 Tryd.underlying27 hi hz0 hz1 hz2 rfl (by decide) _ ys.length _ rfl (World.ownsRow.alloc HO3.out _) ⟨w3.heap.size, 0, none⟩ 1 1 [.int .i64 0] rfl rfl ?c1 ?c2 (by decide) ?c3 ?c4 ?c5 (w3.heap.size + 1) ?c6 ?_)
    case c1 =>
      intro j u hj
      match j, hj with
      | 0, hj => simp at hj; subst hj; simp [Addr.add]
    case c2 => intro u hu; simp at hu; subst hu; rfl
    case c3 => unfold maxLen; omega
    case c4 => omega
    case c5 => simp; omega
    case c6 => simp
    intro g2 cap2 w4 hown2 hgrow2 hat4 hlt2
    have Hst := hid (list_step HS3.out HG3.out hgw hw0 HO3.out hgrow2)
    have Ho2 := hid (own_snoc hown2)
    clear hown2 hgrow2 hat4 hlt2
    go_wp2
    go_ret
    exact ⟨g2, cap2, ys ++ [0], at2 + 1, by simp, Ho2.out, by simp; omega, by omega, Hst.out.1, Hst.out.2⟩
  · have b0 : (kd == 0) = false := beq_eq_false_iff_ne.2 (by omega)
    have b1 : (kd == 1) = true := beq_iff_eq.2 hkd
    clear hkd
    by_cases hpos : 0 < ys.length
    · go_wp2_with fail
      refine (l1Next_calls w0 _ g a cap bs _ _ HS3.out (by omega) (by omega) (by omega)).mono ?_
      rintro e w4 ⟨j, rfl, hj1, hj2, hs4, hg4⟩
      obtain ⟨jn, rfl⟩ := Int.eq_ofNat_of_zero_le hj1
      have HO4 := hid (HO3.out.kept hg4 (ne_some (by omega)))
      have HG4 := hid (grown_then HG3.out hg4 (fun j e => Or.inl (by simpa using e.symm)))
      have HS4 := hid hs4
      have hw4 := hg4.size
      clear hs4 hg4 HO3 HG3 HS3
      go_wp2_with fail
      refine (l1Pick_lit w0 _ g a cap bs _ 2 2 [32768, -32769] _ HS4.out (by omega) rfl rfl (by omega) (by omega)).mono ?_
      rintro e w5 ⟨r, rfl, _, hs5, hg5⟩
      have ho5 := (HO4.out.kept (grown_alloc w4 _ none) (by simp)).kept hg5 (ne_some (by omega))
      have hg5' := grown_then (grown_then HG4.out (grown_alloc w4 _ none) (fun j e => by cases e)) hg5 (fun j e => Or.inl (by simpa using e.symm))
      have hcell := own_cell ho5 jn (by omega)
      have hfr := own_frozen ho5 jn
      have hset := own_set ho5 jn r
      have HO5 := hid hset.1
      have HS5 := hid (src_grown hs5 hset.2 (fun k e => by cases e; exact ⟨by omega, by omega⟩))
      have HG5 := hid (grown_then hg5' hset.2 (fun k e => by cases e; exact Or.inr hle.1))
      clear hs5 hg5 HO4 HG4 HS4 hset ho5 hg5'
      generalize ys.getD jn 0 = y at *
      go_wp2
      go_ret
      exact ⟨gl, cl, ys.set jn r, _, by simp, HO5.out, by simp; omega, by omega, HS5.out, HG5.out⟩
    · have hy0 : ys.length = 0 := by omega
      go_wp2
      go_ret
      exact ⟨gl, cl, ys, _, by simp [hy0], HO3.out, by omega, by omega, HS3.out, HG3.out⟩
  · have b0 : (kd == 0) = false := beq_eq_false_iff_ne.2 hkd.1
    have b1 : (kd == 1) = false := beq_eq_false_iff_ne.2 hkd.2
    clear hkd
    go_wp2
    go_ret
    exact ⟨gl, cl, ys, _, rfl, HO3.out, by omega, by omega, HS3.out, HG3.out⟩
end Go.Proofs.YtobmngoodjmdaaaDoor.Draws
