/- The samples that are drawn: a list of its own, each number a sample. -/
import Derived.Test.YtodfkicmmcfkaaaLists
namespace Go.Proofs.Ytodfkicmmcfkaaa.Samples
open Go.ChangeShapes Go.WideShapes Go.ChangeAt Go.RowKit Go.Proofs.Ytodfkicmmcfkaaa.Num Go.Proofs.Ytodfkicmmcfkaaa.Sli Go.Proofs.Ytodfkicmmcfkaaa.Src Go.Proofs.Ytodfkicmmcfkaaa.Lists

def clampV (v : Int) : Int := if v < -32768 then -32768 else if 32767 < v then 32767 else v
theorem clampV_bd (v : Int) : -32768 ≤ clampV v ∧ clampV v ≤ 32767 := by unfold clampV; split <;> (try split) <;> omega
theorem specClamp16_calls (v : Int) (w : World) :
    Calls Try.prog 70 #[.int .i64 v] w fun e w' => e = .returned (.int .i64 (clampV v)) ∧ w' = w := by
  by_cases c1 : v < -32768
  · have H : Hid (-32768 = clampV v) := by unfold Hid clampV; rw [if_pos c1]
    go_enter Try.func70, Try.ntmps70
    go_wp2
    go_ret
    exact ⟨ret_int H.out, rfl⟩
  · by_cases c2 : 32767 < v
    · have H : Hid (32767 = clampV v) := by unfold Hid clampV; rw [if_neg c1, if_pos c2]
      go_enter Try.func70, Try.ntmps70
      go_wp2
      go_ret
      exact ⟨ret_int H.out, rfl⟩
    · have H : Hid (v = clampV v) := by unfold Hid clampV; rw [if_neg c1, if_neg c2]
      go_enter Try.func70, Try.ntmps70
      go_wp2
      go_ret
      exact ⟨ret_int H.out, rfl⟩
theorem specClamp16_ex (v : Int) (w : World) :
    Calls Try.prog 70 #[.int .i64 v] w fun e w' => ∃ u, e = .returned (.int .i64 u) ∧ -32768 ≤ u ∧ u ≤ 32767 ∧ w' = w :=
  (specClamp16_calls v w).mono fun _ _ ⟨he, hw⟩ => ⟨_, he, (clampV_bd v).1, (clampV_bd v).2, hw⟩
theorem ne_some {a b : Nat} (h : a ≠ b) : some a ≠ some b := fun e => h (by simpa using e)
theorem step_bd (s : Int) (i : Nat) (h1 : -300 ≤ s) (h2 : s ≤ 700) (hi : i ≤ 20) : -6000 ≤ s * (i : Int) ∧ s * (i : Int) ≤ 14000 := by
  have a := Int.mul_le_mul_of_nonneg_right h2 (show (0 : Int) ≤ i by omega)
  have b := Int.mul_le_mul_of_nonneg_right h1 (show (0 : Int) ≤ i by omega)
  omega

set_option maxHeartbeats 2000000 in
theorem l1Samples_calls (w0 w : World) (g : Nat) (a : Option Addr) (cap : Nat) (bs : List Int) (at' n : Nat) (h : Src w0 w g a cap bs at') (hat : at' ≤ 10000) (hn : n ≤ 20) :
    Calls Try.prog 58 #[.pointer (some ⟨g, 0, none⟩), .int .i64 n] w fun e w' => ∃ gl cl ys at2, e = .returned (.slice (some ⟨gl, 0, none⟩) ys.length cl) ∧ Lists.Own w.heap.size w' gl cl ys ∧ ys.length = n ∧ (∀ y ∈ ys, -32768 ≤ y ∧ y ≤ 32767) ∧ at2 ≤ at' + 30 ∧ Src w0 w' g a cap bs at2 ∧ w.grownBy w' (some g) := by
  obtain ⟨i0, hi, hz0, hz1, hz2⟩ := info_parts infoI
  have hgw := src_lt h
  have hw0 := h.2.1.size
  have HO := hid (own_new w)
  have HS := hid (src_alloc h (.cells #[] 2))
  clear h
  go_enter Try.func58, Try.ntmps58
  go_wp2_with fail
  refine (l1Signed_calls w0 _ g a cap bs _ _ HS.out (by omega) (by omega) (by omega)).mono ?_
  rintro e w1 ⟨ba, rfl, hba1, hba2, hs1, hg1⟩
  have HO1 := hid (HO.out.kept hg1 (ne_some (by omega)))
  have HG1 := hid (grown_then (grown_alloc w (.cells #[] 2) (some g)) hg1 (fun j e => Or.inl (by simpa using e.symm)))
  have HS1 := hid hs1
  clear hs1 hg1 HO HS
  go_wp2_with fail
  refine (l1Pick_lit w0 _ g a cap bs _ 5 2 [0, 1, 50, 700, -300] _ HS1.out (by omega) rfl rfl (by omega) (by omega)).mono ?_
  rintro e w2 ⟨st, rfl, hst, hs2, hg2⟩
  have hst1 : -300 ≤ st := by simp at hst; omega
  have hst2 : st ≤ 700 := by simp at hst; omega
  have HO2 := hid ((HO1.out.kept (grown_alloc w1 _ none) (by simp)).kept hg2 (ne_some (by omega)))
  have HG2 := hid (grown_then (grown_then HG1.out (grown_alloc w1 _ none) (fun j e => by cases e)) hg2 (fun j e => Or.inl (by simpa using e.symm)))
  have HS2 := hid hs2
  clear hs2 hg2 HO1 HG1 HS1 hst
  go_wp2_with fail
  refine (l1Next_calls w0 _ g a cap bs _ _ HS2.out (by omega) (by omega) (by omega)).mono ?_
  rintro e w3 ⟨kd, rfl, hkd1, hkd2, hs3, hg3⟩
  have HO3 := hid (HO2.out.kept hg3 (ne_some (by omega)))
  have HG3 := hid (grown_then HG2.out hg3 (fun j e => Or.inl (by simpa using e.symm)))
  have HS3 := hid hs3
  clear hs3 hg3 HO2 HG2 HS2
  go_wp2
  go_loopw [5, 9] (fun v i wr => ∃ (k gl cl : Nat) (ys : List Int) (at2 : Nat), i = .int .i64 k ∧ v = .slice (some ⟨gl, 0, none⟩) ys.length cl ∧ Hid (k = ys.length) ∧ k ≤ n ∧ Hid (at2 ≤ at' + 3 + ys.length) ∧ Hid (∀ y ∈ ys, -32768 ≤ y ∧ y ≤ 32767) ∧ Hid (Lists.Own w.heap.size wr gl cl ys) ∧ Hid (Src w0 wr g a cap bs at2) ∧ Hid (w.grownBy wr (some g))) (fun _ i _ => n - (intOf i).toNat)
  case atStart => exact ⟨0, w.heap.size, 0, [], _, rfl, rfl, rfl, Nat.zero_le _, (by unfold Hid; simp), (fun y hy => by cases hy), HO3.out, HS3.out, HG3.out⟩
  case round =>
    obtain ⟨k, gl, cl, ys, at2, rfl, rfl, hkl, hkn, hat0, hys, hown, hsrc, hgr⟩ := hrel
    clear HO3 HG3 HS3
    have hkl' := hkl.out
    subst hkl'
    clear hkl
    by_cases hlt : ys.length < n
    · have hsb := step_bd st ys.length hst1 hst2 (by omega)
      have hrest : True := trivial
      rcases (show kd = 0 ∨ kd = 1 ∨ kd = 2 ∨ kd = 3 ∨ kd = 4 by omega) with hkd | hkd | hkd | hkd | hkd
      · clear hrest
        have b0 : (kd == 0) = true := by first | exact beq_iff_eq.2 (by omega) | exact beq_eq_false_iff_ne.2 (by omega)
        have b1 : (kd == 1) = false := by first | exact beq_iff_eq.2 (by omega) | exact beq_eq_false_iff_ne.2 (by omega)
        have b2 : (kd == 2) = false := by first | exact beq_iff_eq.2 (by omega) | exact beq_eq_false_iff_ne.2 (by omega)
        have b3 : (kd == 3) = false := by first | exact beq_iff_eq.2 (by omega) | exact beq_eq_false_iff_ne.2 (by omega)
        clear hkd
        have Ho := hown
        have Hs := hsrc
        have Hg := hgr
        have hw1 : w.heap.size ≤ wr.heap.size := hgr.out.size
        clear hown hsrc hgr
        go_wp2_with fail
        refine (specClamp16_ex _ _).mono ?_
        rintro e w' ⟨u, rfl, hu1, hu2, hw'⟩
        have hw2 := hw'.symm
        subst hw2
        clear hw'
        go_wp2_with (at_builtin; refine wpList_append_lies _ rfl _ _ 24 rfl w.heap.size 2 i0 (.int .i64 0) 1 8 Try.underlying24 hi hz0 hz1 hz2 rfl (by decide) _ ys.length _ rfl (World.ownsRow.alloc Ho.out _) ⟨wr.heap.size, 0, none⟩ 1 1 [.int .i64 u] rfl rfl ?c1 ?c2 (by decide) ?c3 ?c4 ?c5 (wr.heap.size + 1) ?c6 ?_)
        case c1 =>
          intro j u hj
          match j, hj with
          | 0, hj => simp at hj; subst hj; simp [Addr.add]
        case c2 => intro u hu; simp at hu; subst hu; rfl
        case c3 => unfold maxLen; omega
        case c4 => omega
        case c5 => simp; omega
        case c6 => simp
        intro g2 cap2 w2 hown2 hgrow2 hat2 hlt2
        have Hst := hid (list_step Hs.out Hg.out hgw hw0 Ho.out hgrow2)
        have Ho2 := hid (own_snoc hown2)
        clear hown2 hgrow2 hat2 hlt2
        go_wp2
        go_roundw
        case rel => exact ⟨ys.length + 1, g2, cap2, ys ++ [u], at2, by go_num, by simp, by unfold Hid; simp, by omega, by have := hat0.out; unfold Hid; simp; omega, (fun y hy => by rcases List.mem_append.1 hy with h1 | h1; exact hys.out y h1; simp at h1; rw [h1]; exact ⟨hu1, hu2⟩), Ho2.out, Hst.out.1, Hst.out.2⟩
        case measure => simp [intOf]; omega
      · clear hrest
        have b0 : (kd == 0) = false := by first | exact beq_iff_eq.2 (by omega) | exact beq_eq_false_iff_ne.2 (by omega)
        have b1 : (kd == 1) = true := by first | exact beq_iff_eq.2 (by omega) | exact beq_eq_false_iff_ne.2 (by omega)
        have b2 : (kd == 2) = false := by first | exact beq_iff_eq.2 (by omega) | exact beq_eq_false_iff_ne.2 (by omega)
        have b3 : (kd == 3) = false := by first | exact beq_iff_eq.2 (by omega) | exact beq_eq_false_iff_ne.2 (by omega)
        clear hkd
        go_wp2_with fail
        refine (l1Signed_calls w0 _ g a cap bs _ _ hsrc.out (by have := hat0.out; omega) (by omega) (by omega)).mono ?_
        rintro e w1 ⟨r, rfl, hr1, hr2, hs1, hg1⟩
        have hle := hown.out.le
        have hown1 : Lists.Own w.heap.size w1 gl cl ys := hown.out.kept hg1 (ne_some (by omega))
        have hgr1 : w.grownBy w1 (some g) := grown_then hgr.out hg1 (fun j e => Or.inl (by simpa using e.symm))
        have hw1 : w.heap.size ≤ w1.heap.size := hgr1.size
        have Ho := hid hown1
        have Hs := hid hs1
        have Hg := hid hgr1
        clear hs1 hg1 hown1 hgr1 hown hsrc hgr
        go_wp2_with fail
        refine (specClamp16_ex _ _).mono ?_
        rintro e w' ⟨u, rfl, hu1, hu2, hw'⟩
        have hw2 := hw'.symm
        subst hw2
        clear hw'
        go_wp2_with (at_builtin; refine wpList_append_lies _ rfl _ _ 24 rfl w.heap.size 2 i0 (.int .i64 0) 1 8 Try.underlying24 hi hz0 hz1 hz2 rfl (by decide) _ ys.length _ rfl (World.ownsRow.alloc Ho.out _) ⟨w1.heap.size, 0, none⟩ 1 1 [.int .i64 u] rfl rfl ?c1 ?c2 (by decide) ?c3 ?c4 ?c5 (w1.heap.size + 1) ?c6 ?_)
        case c1 =>
          intro j u hj
          match j, hj with
          | 0, hj => simp at hj; subst hj; simp [Addr.add]
        case c2 => intro u hu; simp at hu; subst hu; rfl
        case c3 => unfold maxLen; omega
        case c4 => omega
        case c5 => simp; omega
        case c6 => simp
        intro g2 cap2 w2 hown2 hgrow2 hat2 hlt2
        have Hst := hid (list_step Hs.out Hg.out hgw hw0 Ho.out hgrow2)
        have Ho2 := hid (own_snoc hown2)
        clear hown2 hgrow2 hat2 hlt2
        go_wp2
        go_roundw
        case rel => exact ⟨ys.length + 1, g2, cap2, ys ++ [u], at2 + 1, by go_num, by simp, by unfold Hid; simp, by omega, by have := hat0.out; unfold Hid; simp; omega, (fun y hy => by rcases List.mem_append.1 hy with h1 | h1; exact hys.out y h1; simp at h1; rw [h1]; exact ⟨hu1, hu2⟩), Ho2.out, Hst.out.1, Hst.out.2⟩
        case measure => simp [intOf]; omega
      · clear hrest
        have b0 : (kd == 0) = false := by first | exact beq_iff_eq.2 (by omega) | exact beq_eq_false_iff_ne.2 (by omega)
        have b1 : (kd == 1) = false := by first | exact beq_iff_eq.2 (by omega) | exact beq_eq_false_iff_ne.2 (by omega)
        have b2 : (kd == 2) = true := by first | exact beq_iff_eq.2 (by omega) | exact beq_eq_false_iff_ne.2 (by omega)
        have b3 : (kd == 3) = false := by first | exact beq_iff_eq.2 (by omega) | exact beq_eq_false_iff_ne.2 (by omega)
        clear hkd
        go_wp2_with fail
        refine (l1Pick_lit w0 _ g a cap bs _ 3 2 [32767, -32768, 0] _ hsrc.out (by have := hat0.out; omega) rfl rfl (by omega) (by omega)).mono ?_
        rintro e w1 ⟨r, rfl, hr, hs1, hg1⟩
        have hr1 : -32768 ≤ r ∧ r ≤ 32767 := by simp at hr; omega
        have hle := hown.out.le
        have hown1 : Lists.Own w.heap.size w1 gl cl ys := (hown.out.kept (grown_alloc wr _ none) (by simp)).kept hg1 (ne_some (by omega))
        have hgr1 : w.grownBy w1 (some g) := grown_then (grown_then hgr.out (grown_alloc wr _ none) (fun j e => by cases e)) hg1 (fun j e => Or.inl (by simpa using e.symm))
        have hw1 : w.heap.size ≤ w1.heap.size := hgr1.size
        have Ho := hid hown1
        have Hs := hid hs1
        have Hg := hid hgr1
        clear hs1 hg1 hown1 hgr1 hown hsrc hgr
        go_wp2_with fail
        refine (specClamp16_ex _ _).mono ?_
        rintro e w' ⟨u, rfl, hu1, hu2, hw'⟩
        have hw2 := hw'.symm
        subst hw2
        clear hw'
        go_wp2_with (at_builtin; refine wpList_append_lies _ rfl _ _ 24 rfl w.heap.size 2 i0 (.int .i64 0) 1 8 Try.underlying24 hi hz0 hz1 hz2 rfl (by decide) _ ys.length _ rfl (World.ownsRow.alloc Ho.out _) ⟨w1.heap.size, 0, none⟩ 1 1 [.int .i64 u] rfl rfl ?c1 ?c2 (by decide) ?c3 ?c4 ?c5 (w1.heap.size + 1) ?c6 ?_)
        case c1 =>
          intro j u hj
          match j, hj with
          | 0, hj => simp at hj; subst hj; simp [Addr.add]
        case c2 => intro u hu; simp at hu; subst hu; rfl
        case c3 => unfold maxLen; omega
        case c4 => omega
        case c5 => simp; omega
        case c6 => simp
        intro g2 cap2 w2 hown2 hgrow2 hat2 hlt2
        have Hst := hid (list_step Hs.out Hg.out hgw hw0 Ho.out hgrow2)
        have Ho2 := hid (own_snoc hown2)
        clear hown2 hgrow2 hat2 hlt2
        go_wp2
        go_roundw
        case rel => exact ⟨ys.length + 1, g2, cap2, ys ++ [u], at2 + 1, by go_num, by simp, by unfold Hid; simp, by omega, by have := hat0.out; unfold Hid; simp; omega, (fun y hy => by rcases List.mem_append.1 hy with h1 | h1; exact hys.out y h1; simp at h1; rw [h1]; exact ⟨hu1, hu2⟩), Ho2.out, Hst.out.1, Hst.out.2⟩
        case measure => simp [intOf]; omega
      · clear hrest
        have b0 : (kd == 0) = false := by first | exact beq_iff_eq.2 (by omega) | exact beq_eq_false_iff_ne.2 (by omega)
        have b1 : (kd == 1) = false := by first | exact beq_iff_eq.2 (by omega) | exact beq_eq_false_iff_ne.2 (by omega)
        have b2 : (kd == 2) = false := by first | exact beq_iff_eq.2 (by omega) | exact beq_eq_false_iff_ne.2 (by omega)
        have b3 : (kd == 3) = true := by first | exact beq_iff_eq.2 (by omega) | exact beq_eq_false_iff_ne.2 (by omega)
        clear hkd
        go_wp2_with fail
        refine (l1Signed_calls w0 _ g a cap bs _ _ hsrc.out (by have := hat0.out; omega) (by omega) (by omega)).mono ?_
        rintro e w1 ⟨r, rfl, hr1, hr2, hs1, hg1⟩
        have hle := hown.out.le
        have hown1 : Lists.Own w.heap.size w1 gl cl ys := hown.out.kept hg1 (ne_some (by omega))
        have hgr1 : w.grownBy w1 (some g) := grown_then hgr.out hg1 (fun j e => Or.inl (by simpa using e.symm))
        have hw1 : w.heap.size ≤ w1.heap.size := hgr1.size
        have Ho := hid hown1
        have Hs := hid hs1
        have Hg := hid hgr1
        clear hs1 hg1 hown1 hgr1 hown hsrc hgr
        go_wp2_with fail
        refine (specClamp16_ex _ _).mono ?_
        rintro e w' ⟨u, rfl, hu1, hu2, hw'⟩
        have hw2 := hw'.symm
        subst hw2
        clear hw'
        go_wp2_with (at_builtin; refine wpList_append_lies _ rfl _ _ 24 rfl w.heap.size 2 i0 (.int .i64 0) 1 8 Try.underlying24 hi hz0 hz1 hz2 rfl (by decide) _ ys.length _ rfl (World.ownsRow.alloc Ho.out _) ⟨w1.heap.size, 0, none⟩ 1 1 [.int .i64 u] rfl rfl ?c1 ?c2 (by decide) ?c3 ?c4 ?c5 (w1.heap.size + 1) ?c6 ?_)
        case c1 =>
          intro j u hj
          match j, hj with
          | 0, hj => simp at hj; subst hj; simp [Addr.add]
        case c2 => intro u hu; simp at hu; subst hu; rfl
        case c3 => unfold maxLen; omega
        case c4 => omega
        case c5 => simp; omega
        case c6 => simp
        intro g2 cap2 w2 hown2 hgrow2 hat2 hlt2
        have Hst := hid (list_step Hs.out Hg.out hgw hw0 Ho.out hgrow2)
        have Ho2 := hid (own_snoc hown2)
        clear hown2 hgrow2 hat2 hlt2
        go_wp2
        go_roundw
        case rel => exact ⟨ys.length + 1, g2, cap2, ys ++ [u], at2 + 1, by go_num, by simp, by unfold Hid; simp, by omega, by have := hat0.out; unfold Hid; simp; omega, (fun y hy => by rcases List.mem_append.1 hy with h1 | h1; exact hys.out y h1; simp at h1; rw [h1]; exact ⟨hu1, hu2⟩), Ho2.out, Hst.out.1, Hst.out.2⟩
        case measure => simp [intOf]; omega
      · clear hrest
        have b0 : (kd == 0) = false := by first | exact beq_iff_eq.2 (by omega) | exact beq_eq_false_iff_ne.2 (by omega)
        have b1 : (kd == 1) = false := by first | exact beq_iff_eq.2 (by omega) | exact beq_eq_false_iff_ne.2 (by omega)
        have b2 : (kd == 2) = false := by first | exact beq_iff_eq.2 (by omega) | exact beq_eq_false_iff_ne.2 (by omega)
        have b3 : (kd == 3) = false := by first | exact beq_iff_eq.2 (by omega) | exact beq_eq_false_iff_ne.2 (by omega)
        clear hkd
        have Ho := hown
        have Hs := hsrc
        have Hg := hgr
        have hw1 : w.heap.size ≤ wr.heap.size := hgr.out.size
        clear hown hsrc hgr
        go_wp2_with fail
        refine (specClamp16_ex _ _).mono ?_
        rintro e w' ⟨u, rfl, hu1, hu2, hw'⟩
        have hw2 := hw'.symm
        subst hw2
        clear hw'
        go_wp2_with (at_builtin; refine wpList_append_lies _ rfl _ _ 24 rfl w.heap.size 2 i0 (.int .i64 0) 1 8 Try.underlying24 hi hz0 hz1 hz2 rfl (by decide) _ ys.length _ rfl (World.ownsRow.alloc Ho.out _) ⟨wr.heap.size, 0, none⟩ 1 1 [.int .i64 u] rfl rfl ?c1 ?c2 (by decide) ?c3 ?c4 ?c5 (wr.heap.size + 1) ?c6 ?_)
        case c1 =>
          intro j u hj
          match j, hj with
          | 0, hj => simp at hj; subst hj; simp [Addr.add]
        case c2 => intro u hu; simp at hu; subst hu; rfl
        case c3 => unfold maxLen; omega
        case c4 => omega
        case c5 => simp; omega
        case c6 => simp
        intro g2 cap2 w2 hown2 hgrow2 hat2 hlt2
        have Hst := hid (list_step Hs.out Hg.out hgw hw0 Ho.out hgrow2)
        have Ho2 := hid (own_snoc hown2)
        clear hown2 hgrow2 hat2 hlt2
        go_wp2
        go_roundw
        case rel => exact ⟨ys.length + 1, g2, cap2, ys ++ [u], at2, by go_num, by simp, by unfold Hid; simp, by omega, by have := hat0.out; unfold Hid; simp; omega, (fun y hy => by rcases List.mem_append.1 hy with h1 | h1; exact hys.out y h1; simp at h1; rw [h1]; exact ⟨hu1, hu2⟩), Ho2.out, Hst.out.1, Hst.out.2⟩
        case measure => simp [intOf]; omega
    · go_wp2
      go_ret
      exact ⟨gl, cl, ys, at2, rfl, hown.out, by omega, hys.out, by have := hat0.out; omega, hsrc.out, hgr.out⟩
end Go.Proofs.Ytodfkicmmcfkaaa.Samples
