/- What FnShapes draws: a target and a number of pulses. Conditions: those of the source. -/
import Derived.Test.YtbbejjlgfekipaaSrc
import Derived.Test.YtbbejjlgfekipaaLists
import Derived.Test.YtbbejjlgfekipaaIntA
namespace Go.Proofs.Ytbbejjlgfekipaa.SeaD
open Go.ChangeShapes Go.WideShapes Go.ChangeAt Go.RowKit Go.Proofs.Ytbbejjlgfekipaa.Num Go.Proofs.Ytbbejjlgfekipaa.Sli Go.Proofs.Ytbbejjlgfekipaa.App Go.Proofs.Ytbbejjlgfekipaa.IntL Go.Proofs.Ytbbejjlgfekipaa.IntA Go.Proofs.Ytbbejjlgfekipaa.Src

/-- A list that is drawn, and the source. -/
structure TD (w0 w : World) (g : Nat) (a : Option Addr) (cap : Nat) (bs : List Int) (gl n cl : Nat) (ys : List Int) (at' : Nat) (W : World) : Prop where
  o : OwI w.heap.size W (.slice (some ⟨gl, 0, none⟩) n cl) ys
  s : Src w0 W g a cap bs at'
theorem TD.grown {w0 w : World} {g : Nat} {a : Option Addr} {cap : Nat} {bs : List Int} {gl n cl : Nat} {ys : List Int} {at' at2 : Nat} {W W2 : World} (h : TD w0 w g a cap bs gl n cl ys at' W) (hg : g < w.heap.size) (hs : Src w0 W2 g a cap bs at2) (hgr : W.grownBy W2 (some g)) : TD w0 w g a cap bs gl n cl ys at2 W2 :=
  ⟨h.o.kept hgr (fun j e => by cases e; exact hg), hs⟩
theorem TD.pick {w0 w : World} {g : Nat} {a : Option Addr} {cap : Nat} {bs : List Int} {gl n cl : Nat} {ys : List Int} {at' at2 : Nat} {W W2 : World} {o : Obj} (h : TD w0 w g a cap bs gl n cl ys at' W) (hg : g < w.heap.size) (hs : Src w0 W2 g a cap bs at2) (hgr : (W.alloc o).grownBy W2 (some g)) : TD w0 w g a cap bs gl n cl ys at2 W2 :=
  ⟨(h.o.alloc o).kept hgr (fun j e => by cases e; exact hg), hs⟩
set_option maxRecDepth 100000 in
set_option maxHeartbeats 4000000 in
theorem l12Draw_calls (w0 w : World) (g : Nat) (a : Option Addr) (cap : Nat) (bs : List Int) (at' : Nat) (h : Src w0 w g a cap bs at') (hat : at' ≤ 50000) :
    Calls Try.prog 27 #[.pointer (some ⟨g, 0, none⟩)] w fun e w' => ∃ (gl cl : Nat) (ys : List Int) (at2 : Nat), e = .returned (.slice (some ⟨gl, 0, none⟩) ys.length cl) ∧ 1 ≤ ys.length ∧ ys.length ≤ 4 ∧ at2 ≤ at' + 40 ∧ TD w0 w g a cap bs gl ys.length cl ys at2 w' := by
  have H := hid h
  have hgw := src_lt h
  have hw0 := h.2.1.size
  have H0 := hid (ow_new .i64 2 w.heap.size w (Nat.le_refl _))
  have HS0 := hid (src_alloc h (.cells #[] 2))
  clear h H
  go_enter Try.func27, Try.ntmps27
  go_wp2_with fail
  have HPk := hid (l1Pick_lit w0 _ g a cap bs _ 6 2 [1, 2, 3, 4, 2, 4] _ HS0.out (by omega) rfl rfl (by omega) (by omega))
  rw [World.size_alloc] at HPk
  refine HPk.out.mono ?_
  rintro e w2 ⟨r, rfl, hm, hs2, hg2⟩
  have hrb : 1 ≤ r ∧ r ≤ 4 := by simp at hm; omega
  obtain ⟨n, rfl⟩ := Int.eq_ofNat_of_zero_le (show 0 ≤ r by omega)
  have HT : Hid (TD w0 w g a cap bs w.heap.size 0 0 [] (at' + 1) w2) := ⟨(H0.out.alloc _).kept hg2 (fun j e => by cases e; exact hgw), hs2⟩
  clear hm hs2 hg2 H0 HS0 HPk
  go_wp2_with fail
  go_loopw [3, 4] (fun o nv wr => ∃ (m gl cl at2 : Nat) (ys : List Int), nv = .int .i64 (m : Int) ∧ o = .slice (some ⟨gl, 0, none⟩) ys.length cl ∧ Hid (m + ys.length = n) ∧ Hid (at2 + 4 * m ≤ at' + 40) ∧ Hid (TD w0 w g a cap bs gl ys.length cl ys at2 wr)) (fun _ nv _ => (intOf nv).toNat)
  case atStart => exact ⟨n, _, _, _, [], rfl, rfl, rfl, by show _ ≤ _; omega, HT.out⟩
  case round =>
    obtain ⟨m, gl, cl, at2, ys, rfl, rfl, hmn, hat2, hT⟩ := hrel
    clear HT
    have hmn' := hmn.out
    have hat2' := hat2.out
    by_cases hlt : 0 < m
    · have hmI : 0 < (m : Int) := by omega
      have HM1 : Hid (((m - 1 : Nat) : Int) = (m : Int) - 1) := by show _ = _; omega
      have hyl : ys.length ≤ 4 := by omega
      have hm4 : (m : Int) ≤ 4 := by omega
      have HMn : Hid ((m - 1) + (ys.length + 1) = n) := by show _ = _; omega
      have HMa : Hid (at2 + 1 + 1 + 1 + 1 + 4 * (m - 1) ≤ at' + 40) := by show _ ≤ _; omega
      have hat3 : at2 ≤ 60000 := by omega
      clear hmn hat2 hmn' hat2'
      go_wp2_with fail
      refine (l1Signed_calls w0 _ g a cap bs _ _ hT.out.s (by omega) (by omega) (by omega)).mono ?_
      rintro e w3 ⟨r1, rfl, _, _, hs3, hg3⟩
      have hT3 := hid (hT.out.grown hgw hs3 hg3)
      clear hs3 hg3 hT
      go_wp2_with fail
      refine (l1Signed_calls w0 _ g a cap bs _ _ hT3.out.s (by omega) (by omega) (by omega)).mono ?_
      rintro e w4 ⟨r2, rfl, _, _, hs4, hg4⟩
      have hT4 := hid (hT3.out.grown hgw hs4 hg4)
      clear hs4 hg4 hT3
      go_wp2_with fail
      refine (l1Signed_calls w0 _ g a cap bs _ _ hT4.out.s (by omega) (by omega) (by omega)).mono ?_
      rintro e w5 ⟨r3, rfl, _, _, hs5, hg5⟩
      have hT5 := hid (hT4.out.grown hgw hs5 hg5)
      clear hs5 hg5 hT4
      go_wp2_with fail
      refine (l1Pick_lit w0 _ g a cap bs _ 4 2 [0, r1, r2, r3] _ hT5.out.s (by omega) rfl rfl (by omega) (by omega)).mono ?_
      rintro e w6 ⟨x, rfl, _, hs6, hg6⟩
      have hT6 := hid (hT5.out.pick hgw hs6 hg6)
      clear hs6 hg6 hT5
      have HO7 := hid (hT6.out.o.alloc (.cells #[.int .i64 x] 2))
      have HS7 := hid (src_alloc hT6.out.s (.cells #[.int .i64 x] 2))
      have hsz := hT6.out.s.2.1.size
      have hgb := hT6.out.o.block gl rfl
      have hbs := hgb.1
      clear hT6
      go_wp2_with (at_builtin; refine wpList_append_ints _ rfl _ _ rfl w.heap.size _ ys rfl ?own _ [x] rfl (sl_lit _ _ _ _ _ _ rfl rfl) (by simp) ?c1 ?c2 ?_)
      case own => exact HO7.out
      case c1 => (try simp only [List.length_singleton]); omega
      case c2 => (try simp); omega
      intro g8 cap8 n8 w8 hn8 ho8 hg8 hat8
      have hne8 : g8 ≠ g := by
        rcases hat8 with h | h
        · have : gl = g8 := by simpa [Value.ownBlock] using h
          omega
        · (try rw [World.size_alloc] at h); (try simp at h); omega
      have HS8 := hid (Lists.src_grown HS7.out hg8 (fun j e => by simp [Value.ownBlock] at e; omega))
      have hn8' : n8 = (ys ++ [x]).length := by first | exact hn8 | (simp only [List.length_append, List.length_singleton] at hn8 ⊢; first | exact hn8 | omega) | (rw [List.length_append]; exact hn8)
      subst hn8'
      have HO8 := hid ho8
      have HY : Hid ((ys ++ [x]).length = ys.length + 1) := by show _ = _; rw [List.length_append]; rfl
      clear hn8 ho8 hg8 hat8 HO7 HS7 hgb
      generalize ys ++ [x] = zs at *
      go_wp2
      go_roundw
      case rel => exact ⟨m - 1, g8, cap8, _, zs, by rw [HM1.out], rfl, by rw [HY.out]; exact HMn.out, HMa.out, ⟨HO8.out, HS8.out⟩⟩
      case measure => simp [intOf]; omega
    · obtain rfl : m = 0 := by omega
      have hT2 := hid hT.out
      clear hT hmn hat2
      go_wp2
      go_ret
      exact ⟨gl, cl, ys, at2, rfl, by omega, by omega, by omega, hT2.out⟩
set_option maxRecDepth 100000 in
set_option maxHeartbeats 4000000 in
theorem drawSearchPulses_calls (a : Option Addr) (cap : Nat) (bs : List Int) (w0 : World) (hsl : Sl .u8 w0 (.slice a bs.length cap) bs) (hbd : ∀ x ∈ bs, 0 ≤ x ∧ x ≤ 255) (hlen : bs.length ≤ 1048576) :
    Calls Try.prog 8 #[.slice a bs.length cap] w0 fun e w' => ∃ (u : Value) (ys : List Int) (k : Int), e = .returned (.tuple #[u, .int .i64 k]) ∧ OwI w0.heap.size w' u ys ∧ ys.length ≤ 7 ∧ Below w0.heap.size w0 w' := by
  have H := hid (l1Source_calls a cap bs w0 w0 (Below.refl _ _) hsl hbd hlen)
  clear hsl hbd hlen
  go_enter Try.func8, Try.ntmps8
  go_wp2_with fail
  refine H.out.mono ?_
  rintro e w1 ⟨g, rfl, hs1, _⟩
  have Hs1 := hid hs1
  have hgw := src_lt hs1
  have hbase := hs1.2.1.size
  clear hs1 H
  go_wp2_with fail
  refine (l12Draw_calls w0 _ g a cap bs _ Hs1.out (by omega)).mono ?_
  rintro e w4 ⟨gl, cl, ys, at2, rfl, hy1, hy4, hat2, hT⟩
  have hgl := hT.o.block gl rfl
  have HO4 := hid (App.Ow.mono hT.o hbase)
  have Hs4 := hid hT.s
  have hyI : (1 : Int) ≤ (ys.length : Int) := by omega
  have hyI4 : (ys.length : Int) ≤ 4 := by omega
  clear hT Hs1
  go_wp2_with fail
  refine (l1Next_calls w0 _ g a cap bs _ _ Hs4.out (by omega) (by omega) (by omega)).mono ?_
  rintro e w5 ⟨r, rfl, hr0, hr1, hs5, hg5⟩
  have HO5 := hid (Ow.keptNe HO4.out hg5 (fun j e => by cases e; simp [Value.ownBlock]; omega))
  have Hs5 := hid hs5
  clear hs5 hg5 Hs4 HO4
  have hr : r = 0 ∨ r = 1 ∨ r = 2 ∨ r = 3 ∨ 4 ≤ r := by omega
  rcases hr with rfl | rfl | rfl | rfl | hr4
  · go_wp2_with fail
    refine (l1Pick_lit w0 _ g a cap bs _ 3 2 [16777216, -16777216, 16777217] _ Hs5.out (by omega) rfl rfl (by omega) (by omega)).mono ?_
    rintro e w6 ⟨x, rfl, _, hs6, hg6⟩
    have HO6 := hid (Ow.keptNe (HO5.out.alloc _) hg6 (fun j e => by cases e; simp [Value.ownBlock]; omega))
    have hset := HO6.out.set rfl 0 x
    obtain ⟨x1, x2⟩ := HO6.out.cellAt rfl 0 (by omega)
    have hS7 := Lists.src_grown hs6 hset.2 (fun j e => by cases e; omega)
    have HSt := hid hset.1
    have HS7 := hid hS7
    have HL : Hid ((ys.set 0 x).length = ys.length) := by show _ = _; rw [List.length_set]
    have HPk := hid (l1Pick_lit w0 (w6.setCell ⟨gl, 0, none⟩ (.int .i64 x)) g a cap bs _ 8 2 [8, 6, 4, 2, 1, 3, 0, 9] _ HS7.out (by omega) rfl rfl (by omega) (by omega))
    rw [World.size_setCell] at HPk
    clear hset hs6 hg6 HO5 Hs5 HO6 hS7
    go_wp2_with fail
    refine HPk.out.mono ?_
    rintro e w8 ⟨k, rfl, _, hs8, hg8⟩
    have HO8 := hid (Ow.keptNe (HSt.out.alloc _) hg8 (fun j e => by cases e; simp [Value.ownBlock]; omega))
    have HB8 := hid hs8.2.1
    clear hs8 hg8 HSt HS7 HPk
    go_wp2
    go_ret2
    exact ⟨_, _, _, rfl, HO8.out, by rw [HL.out]; omega, HB8.out⟩
  · have HO6 := hid (HO5.out.alloc (.cells #[.int .i64 0, .int .i64 0, .int .i64 0] 2))
    have HS6 := hid (src_alloc Hs5.out (.cells #[.int .i64 0, .int .i64 0, .int .i64 0] 2))
    have hsz := Hs5.out.2.1.size
    have hg5 := src_lt Hs5.out
    clear HO5 Hs5
    go_wp2_with (at_builtin; refine wpList_append_ints _ rfl _ _ rfl w0.heap.size _ ys rfl ?own _ [0, 0, 0] rfl (sl_lit _ _ _ _ _ _ rfl rfl) (by simp) ?c1 ?c2 ?_)
    case own => exact HO6.out
    case c1 => (try simp only [List.length_cons, List.length_nil]); omega
    case c2 => (try simp); omega
    intro g7 cap7 n7 w7 hn7 ho7 hg7 hat7
    have hne7 : g7 ≠ g := by
      rcases hat7 with h | h
      · have : gl = g7 := by simpa [Value.ownBlock] using h
        omega
      · (try rw [World.size_alloc] at h); (try simp at h); omega
    have HS7 := hid (Lists.src_grown HS6.out hg7 (fun j e => by simp [Value.ownBlock] at e; omega))
    have hn7' : n7 = (ys ++ [0, 0, 0]).length := by simp only [List.length_append, List.length_cons, List.length_nil]; first | exact hn7 | (simp only [List.length_append, List.length_cons, List.length_nil] at hn7; exact hn7)
    subst hn7'
    have HO7 := hid ho7
    have HL : Hid ((ys ++ [0, 0, 0]).length ≤ 7) := by show _ ≤ _; rw [List.length_append]; simp; omega
    clear hn7 ho7 hg7 hat7 HO6 HS6
    generalize ys ++ [0, 0, 0] = zs at *
    go_wp2_with fail
    refine (l1Pick_lit w0 _ g a cap bs _ 8 2 [8, 6, 4, 2, 1, 3, 0, 9] _ HS7.out (by omega) rfl rfl (by omega) (by omega)).mono ?_
    rintro e w8 ⟨k, rfl, _, hs8, hg8⟩
    have HO8 := hid (Ow.keptNe (HO7.out.alloc _) hg8 (fun j e => by cases e; simp [Value.ownBlock]; omega))
    have HB8 := hid hs8.2.1
    clear hs8 hg8 HO7 HS7
    go_wp2
    go_ret2
    exact ⟨_, _, _, rfl, HO8.out, HL.out, HB8.out⟩
  · go_wp2_with fail
    refine (l1Pick_lit w0 _ g a cap bs _ 8 2 [8, 6, 4, 2, 1, 3, 0, 9] _ Hs5.out (by omega) rfl rfl (by omega) (by omega)).mono ?_
    rintro e w8 ⟨k, rfl, _, hs8, hg8⟩
    have HB8 := hid hs8.2.1
    clear hs8 hg8 HO5 Hs5
    go_wp2
    go_ret2
    exact ⟨_, [], _, rfl, World.ownsRow_nil _ _ _ _, by simp, HB8.out⟩
  · have HT : Hid (OwI w0.heap.size w5 (.slice (some ⟨gl, 0, none⟩) ys.length cl) ys) := HO5
    have hn5 : ys.length ≤ 4 := hy4
    obtain ⟨n, hn⟩ : ∃ n, ys.length = n := ⟨_, rfl⟩
    have hN : Hid (ys.length = n) := hn
    rw [hn] at hyI hyI4 HT ⊢
    have hn4 : n ≤ 4 := by omega
    have HS5 := hid Hs5.out
    clear HO5 Hs5 hn hy1 hy4 hn5
    go_wp2_with fail
    go_loopw [31] (fun iv wr => ∃ (i at3 : Nat) (zs : List Int), i ≤ n ∧ iv = .int .i64 (i : Int) ∧ Hid (at3 ≤ 60 + i) ∧ Hid (zs.length = n) ∧ Hid (OwI w0.heap.size wr (.slice (some ⟨gl, 0, none⟩) n cl) zs) ∧ Hid (Src w0 wr g a cap bs at3)) (fun iv _ => n - (intOf iv).toNat)
    case atStart => exact ⟨0, _, ys, Nat.zero_le _, rfl, by show _ ≤ _; omega, hN.out, HT.out, HS5.out⟩
    case round =>
      obtain ⟨i, at3, zs, hi, rfl, hat3, hzl, hO, hS⟩ := hrel
      clear HT HS5 hN
      have hat4 := hat3.out
      by_cases hlt : i < n
      · have hiI : (i : Int) < (n : Int) := by omega
        have hlw := src_lt hS.out
        go_wp2_with fail
        refine (l1Pick_lit w0 _ g a cap bs _ 2 2 [0, 5] _ hS.out (by omega) rfl rfl (by omega) (by omega)).mono ?_
        rintro e w6 ⟨x, rfl, _, hs6, hg6⟩
        have HO6 := hid (Ow.keptNe (hO.out.alloc _) hg6 (fun j e => by cases e; simp [Value.ownBlock]; omega))
        have hset := HO6.out.set hzl.out.symm i x
        obtain ⟨x1, x2⟩ := HO6.out.cellAt hzl.out.symm i (by rw [hzl.out]; exact hlt)
        have HS7 := hid (Lists.src_grown hs6 hset.2 (fun j e => by cases e; omega))
        have HSt := hid hset.1
        have HL : Hid ((zs.set i x).length = n) := by show _ = _; rw [List.length_set]; exact hzl.out
        have HA : Hid (at3 + 1 ≤ 60 + (i + 1)) := by show _ ≤ _; omega
        clear hset hs6 hg6 HO6 hO hS hzl hat3 hat4
        go_wp2
        go_roundw
        case rel => exact ⟨i + 1, at3 + 1, zs.set i x, by omega, by go_num, HA.out, HL.out, HSt.out, HS7.out⟩
        case measure => simp [intOf]; omega
      · obtain rfl : i = n := by omega
        go_wp2_with fail
        refine (l1Pick_lit w0 _ g a cap bs _ 8 2 [8, 6, 4, 2, 1, 3, 0, 9] _ hS.out (by omega) rfl rfl (by omega) (by omega)).mono ?_
        rintro e w8 ⟨k, rfl, _, hs8, hg8⟩
        have HO8 := hid (Ow.keptNe (hO.out.alloc _) hg8 (fun j e => by cases e; simp [Value.ownBlock]; omega))
        have HB8 := hid hs8.2.1
        have HZ : Hid (zs.length ≤ 7) := by show _ ≤ _; rw [hzl.out]; omega
        clear hs8 hg8 hO hS hzl hat3 hat4
        go_wp2
        go_ret2
        exact ⟨_, zs, _, rfl, HO8.out, HZ.out, HB8.out⟩
  · have b0 : (r == 0) = false := by simp; omega
    have b1 : (r == 1) = false := by simp; omega
    have b2 : (r == 2) = false := by simp; omega
    have b3 : (r == 3) = false := by simp; omega
    go_wp2_with fail
    refine (l1Pick_lit w0 _ g a cap bs _ 8 2 [8, 6, 4, 2, 1, 3, 0, 9] _ Hs5.out (by omega) rfl rfl (by omega) (by omega)).mono ?_
    rintro e w8 ⟨k, rfl, _, hs8, hg8⟩
    have HO8 := hid (Ow.keptNe (HO5.out.alloc _) hg8 (fun j e => by cases e; simp [Value.ownBlock]; omega))
    have HB8 := hid hs8.2.1
    clear hs8 hg8 HO5 Hs5
    go_wp2
    go_ret2
    exact ⟨_, _, _, rfl, HO8.out, by omega, HB8.out⟩
end Go.Proofs.Ytbbejjlgfekipaa.SeaD
