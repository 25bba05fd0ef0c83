/- What the laws of pulses draw: lengths and numbers of pulses, lists of them, right and wrong ones. Conditions: those of the source. -/
import Derived.Test.YtpoannaidojmoaaSrc
import Derived.Test.YtpoannaidojmoaaLists
import Derived.Test.YtpoannaidojmoaaPulT
import Derived.OwnWalk
namespace Go.Proofs.Ytpoannaidojmoaa.PulD
open Go.ChangeShapes Go.WideShapes Go.ChangeAt Go.RowKit Go.Proofs.Ytpoannaidojmoaa.Num Go.Proofs.Ytpoannaidojmoaa.Sli Go.Proofs.Ytpoannaidojmoaa.App Go.Proofs.Ytpoannaidojmoaa.IntL Go.Proofs.Ytpoannaidojmoaa.IntA Go.Proofs.Ytpoannaidojmoaa.Src Go.Proofs.Ytpoannaidojmoaa.PulM Go.Proofs.Ytpoannaidojmoaa.PulS Go.Proofs.Ytpoannaidojmoaa.PulT

theorem fieldV (c a : Value) (w : World) : (Instr.field 28 (.agg #[c, a]) 1).run Try.prog w = .ok a w := by kernel_rfl
attribute [local go_sem] fieldV
theorem src_later {w0 w w' : World} {g : Nat} {a : Option Addr} {cap : Nat} {bs : List Int} {at' : Nat} (h : Src w0 w g a cap bs at') (hb : Below w.heap.size w w') : Src w0 w' g a cap bs at' := by
  have hlt := src_lt h
  obtain ⟨h1, h2, h3, h4, h5, h6⟩ := h
  exact ⟨h1, bthen h2 hb, h3, h4, h5, (hb.block g hlt).trans h6⟩
set_option maxHeartbeats 1000000 in
theorem drawCountPulses_calls (a : Option Addr) (cap : Nat) (bs : List Int) (w0 : World) (hsl : Sl .u8 w0 (.slice a bs.length cap) bs) (hbd : ∀ x ∈ bs, 0 ≤ x ∧ x ≤ 255) (hlen : bs.length ≤ 1048576) :
    Calls Try.prog 42 #[.slice a bs.length cap] w0 fun e w' => ∃ d k : Int, e = .returned (.tuple #[.int .i64 d, .int .i64 k]) ∧ Below w0.heap.size w0 w' := by
  have H := hid (l1Source_calls a cap bs w0 w0 (Below.refl _ _) hsl hbd hlen)
  clear hsl hbd hlen
  go_enter Try.func42, Try.ntmps42
  go_wp2_with fail
  refine H.out.mono ?_
  rintro e w1 ⟨g, rfl, hs1, _⟩
  have Hs1 := hid hs1
  clear hs1 H
  go_wp2_with fail
  refine (l1Pick_lit w0 _ g a cap bs _ 8 2 [1, 2, 3, 4, 2, 4, 5, 0] _ Hs1.out (by omega) rfl rfl (by omega) (by omega)).mono ?_
  rintro e w2 ⟨d, rfl, _, hs2, _⟩
  have Hs2 := hid hs2
  clear hs2 Hs1
  go_wp2_with fail
  refine (l1Pick_lit w0 _ g a cap bs _ 9 2 [0, 1, 2, 4, 6, 8, 8, 9, -1] _ Hs2.out (by omega) rfl rfl (by omega) (by omega)).mono ?_
  rintro e w3 ⟨k, rfl, _, hs3, _⟩
  have Hb := hid hs3.2.1
  clear hs3 Hs2
  go_wp2
  go_ret2
  exact ⟨_, _, rfl, Hb.out⟩
set_option maxHeartbeats 1000000 in
theorem drawPulsesAt_calls (a : Option Addr) (cap : Nat) (bs : List Int) (w0 : World) (hsl : Sl .u8 w0 (.slice a bs.length cap) bs) (hbd : ∀ x ∈ bs, 0 ≤ x ∧ x ≤ 255) (hlen : bs.length ≤ 1048576) :
    Calls Try.prog 16 #[.slice a bs.length cap] w0 fun e w' => ∃ d k i : Int, e = .returned (.tuple #[.int .i64 d, .int .i64 k, .int .i64 i]) ∧ Below w0.heap.size w0 w' := by
  have H := hid (l1Source_calls a cap bs w0 w0 (Below.refl _ _) hsl hbd hlen)
  have HD := hid (fun w1 (hb : Below w0.heap.size w0 w1) => drawCountPulses_calls a cap bs w1 (hsl.later hb) hbd hlen)
  clear hsl hbd hlen
  go_enter Try.func16, Try.ntmps16
  go_wp2_with fail
  refine H.out.mono ?_
  rintro e w1 ⟨g, rfl, hs1, _⟩
  have Hs1 := hid hs1
  clear hs1 H
  go_wp2_with fail
  refine (HD.out _ Hs1.out.2.1).mono ?_
  rintro e w2 ⟨d, k, rfl, hb2⟩
  have Hs2 := hid (src_later Hs1.out hb2)
  have HC := hid (specCountPulses_calls d k)
  have hcb : 0 ≤ cpV d k ∧ cpV d k ≤ 100000 := by
    by_cases h : cpC d k = 0
    · obtain ⟨e, _, _, _, _, g1, g2, _⟩ := counts_law h
      omega
    · have : cpV d k = 0 := if_neg (by intro e; exact h (if_pos e))
      omega
  clear hb2 Hs1 HD
  go_wp2_with fail
  refine (HC.out _).mono ?_
  rintro e w3 ⟨rfl, hb3⟩
  have Hs3 := hid (src_later Hs2.out hb3)
  clear hb3 Hs2 HC
  generalize cpV d k = n at *
  generalize cpC d k = c at *
  go_wp2_with fail
  refine (l1Next_any w0 _ g a cap bs _ n Hs3.out (by omega) (by omega)).mono ?_
  rintro e w4 ⟨r1, rfl, _, _, hs4, _⟩
  have Hs4 := hid hs4
  clear hs4 Hs3
  go_wp2_with fail
  refine (l1Next_any w0 _ g a cap bs _ n Hs4.out (by omega) (by omega)).mono ?_
  rintro e w5 ⟨r2, rfl, _, _, hs5, _⟩
  have Hs5 := hid hs5
  clear hs5 Hs4
  go_wp2_with fail
  refine (l1Next_any w0 _ g a cap bs _ n Hs5.out (by omega) (by omega)).mono ?_
  rintro e w6 ⟨r3, rfl, _, _, hs6, _⟩
  have Hs6 := hid hs6
  clear hs6 Hs5
  go_wp2_with fail
  refine (l1Pick_lit w0 _ g a cap bs _ 7 2 [0, n - 1, n, -1, r1, r2, r3] _ Hs6.out (by omega) rfl rfl (by omega) (by omega)).mono ?_
  rintro e w7 ⟨i, rfl, _, hs7, _⟩
  have Hb := hid hs7.2.1
  clear hs7 Hs6
  go_wp2
  go_ret3
  exact ⟨_, _, _, rfl, Hb.out⟩
/-- What a list holds while it is drawn. -/
structure LD (w0 w : World) (g : Nat) (a : Option Addr) (cap : Nat) (bs : List Int) (gl n cl : Nat) (ys : List Int) (at' : Nat) (W : World) : Prop where
  o : OwI w.heap.size W (.slice (some ⟨gl, 0, none⟩) n cl) ys
  s : Src w0 W g a cap bs at'
theorem LD.set {w0 w : World} {g : Nat} {a : Option Addr} {cap : Nat} {bs : List Int} {gl n cl : Nat} {ys : List Int} {at' : Nat} {W : World} (h : LD w0 w g a cap bs gl n cl ys at' W) (hn : n = ys.length) (hg : g < w.heap.size) (hw : w0.heap.size ≤ w.heap.size) (i : Nat) (x : Int) :
    LD w0 w g a cap bs gl n cl (ys.set i x) at' (W.setCell ⟨gl, i, none⟩ (.int .i64 x)) := by
  obtain ⟨o1, o2⟩ := h.o.set hn i x
  have hb := h.o.block gl rfl
  exact ⟨o1, Lists.src_grown h.s o2 (fun j e => by cases e; omega)⟩
theorem LD.grown {w0 w : World} {g : Nat} {a : Option Addr} {cap : Nat} {bs : List Int} {gl n cl : Nat} {ys : List Int} {at' at2 : Nat} {W W2 : World} (h : LD w0 w g a cap bs gl n cl ys at' W) (hg : g < w.heap.size) (hs : Src w0 W2 g a cap bs at2) (hgr : W.grownBy W2 (some g)) : LD w0 w g a cap bs gl n cl ys at2 W2 :=
  ⟨h.o.kept hgr (fun j e => by cases e; exact hg), hs⟩
set_option maxRecDepth 100000 in
set_option maxHeartbeats 4000000 in
theorem l11Draw_calls (w0 w : World) (g : Nat) (a : Option Addr) (cap : Nat) (bs : List Int) (at' d k : Nat) (h : Src w0 w g a cap bs at') (hat : at' ≤ 50000) (hd1 : 1 ≤ d) (hd : d ≤ 4) (hk : k ≤ 8) :
    Calls Try.prog 50 #[.pointer (some ⟨g, 0, none⟩), .int .i64 (d : Int), .int .i64 (k : Int)] w fun e w' => ∃ (gl cl : Nat) (ys : List Int) (at2 : Nat), e = .returned (.slice (some ⟨gl, 0, none⟩) d cl) ∧ ys.length = d ∧ at2 ≤ at' + 16 ∧ OwI w.heap.size w' (.slice (some ⟨gl, 0, none⟩) d cl) ys ∧ Src w0 w' g a cap bs at2 := by
  have H := hid h
  have hgw := src_lt h
  have hw0 := h.2.1.size
  have HZ := hid (zeros_calls d)
  have hdI : (d : Int) ≤ 4 := by omega
  have hdI1 : (1 : Int) ≤ (d : Int) := by omega
  have hkI : (k : Int) ≤ 8 := by omega
  clear h
  go_enter Try.func50, Try.ntmps50
  go_wp2_with fail
  refine (HZ.out _ (by omega)).mono ?_
  rintro e w1 ⟨rfl, hO, hB⟩
  have HL : Hid (LD w0 w g a cap bs w.heap.size d d (List.replicate d 0) at' w1) := ⟨hO, src_later H.out hB⟩
  have HLen : Hid ((List.replicate d (0 : Int)).length = d) := List.length_replicate ..
  clear hO hB H HZ
  go_wp2_with fail
  go_loopw [8] (fun nv wr => ∃ (m at2 : Nat) (ys : List Int), m ≤ k ∧ nv = .int .i64 (m : Int) ∧ Hid (at2 + 2 * m ≤ at' + 16) ∧ Hid (ys.length = d) ∧ Hid (LD w0 w g a cap bs w.heap.size d d ys at2 wr)) (fun nv _ => (intOf nv).toNat)
  case atStart => exact ⟨k, at', _, Nat.le_refl _, rfl, by show _ ≤ _; omega, HLen.out, HL.out⟩
  case round =>
    obtain ⟨m, at2, ys, hm, rfl, hat2, hyl, hL⟩ := hrel
    clear HL HLen
    by_cases hlt : 0 < m
    · obtain ⟨m', rfl⟩ : ∃ m', m = m' + 1 := ⟨m - 1, by omega⟩
      have Hm1 : Hid (((m' + 1 : Nat) : Int) - 1 = (m' : Int)) := by show _ = _; omega
      have hat3 := hat2.out
      go_wp2_with fail
      refine (l1Next_calls w0 _ g a cap bs _ _ hL.out.s (by omega) (by omega) (by omega)).mono ?_
      rintro e w2 ⟨r, rfl, hr0, hr1, hs2, hg2⟩
      obtain ⟨i, rfl⟩ := Int.eq_ofNat_of_zero_le hr0
      have hL2 := hid (hL.out.grown hgw hs2 hg2)
      have hi : i < d := by omega
      have hyl' := hyl.out
      obtain ⟨x1, x2⟩ := hL2.out.o.cellAt hyl'.symm i (by omega)
      have HP := hid (hL2.out.set hyl'.symm hgw hw0 i (ys.getD i 0 + 1))
      clear hs2 hg2 hL
      obtain ⟨x, hx⟩ : ∃ x, ys.getD i 0 = x := ⟨_, rfl⟩
      rw [hx] at x1
      have Hx := hid hx
      clear hx HP
      have hset := fun (v : Int) (at3 : Nat) (W : World) (q : LD w0 w g a cap bs w.heap.size d d ys at3 W) => q.set hyl'.symm hgw hw0 i v
      have HSt := hid hset
      have hylI : ∀ v, (ys.set i v).length = d := fun v => by rw [List.length_set]; exact hyl'
      have HYL := hid hylI
      have HY := hid hyl'
      have HA3 : Hid (at2 + 1 + 2 * m' ≤ at' + 16) := by show _ ≤ _; omega
      have HA4 : Hid (at2 + 1 + 1 + 2 * m' ≤ at' + 16) := by show _ ≤ _; omega
      clear hset hylI hyl'
      by_cases hx0 : 0 < x
      · go_wp2
        go_roundw
        case rel => exact ⟨m', _, _, by omega, by go_num, HA3.out, HYL.out _, HSt.out _ _ _ hL2.out⟩
        case measure => simp [intOf]
      · by_cases hx1 : x = 0
        · subst hx1
          go_wp2_with fail
          refine (l1Chance_calls w0 _ g a cap bs _ _ hL2.out.s (by omega) (by omega) (by omega)).mono ?_
          rintro e w3 ⟨c, rfl, hs3, hg3⟩
          have hL3 := hid (hL2.out.grown hgw hs3 hg3)
          obtain ⟨y1, y2⟩ := hL3.out.o.cellAt HY.out.symm i (by rw [HY.out]; exact hi)
          rw [Hx.out] at y1
          clear hs3 hg3 hL2 x1 x2
          cases c
          · go_wp2
            go_roundw
            case rel => exact ⟨m', _, _, by omega, by go_num, HA4.out, HYL.out _, HSt.out _ _ _ hL3.out⟩
            case measure => simp [intOf]
          · go_wp2
            go_roundw
            case rel => exact ⟨m', _, _, by omega, by go_num, HA4.out, HYL.out _, HSt.out _ _ _ hL3.out⟩
            case measure => simp [intOf]
        · have hb1 : (x == 0) = false := by simpa using hx1
          clear hx1
          go_wp2
          go_roundw
          case rel => exact ⟨m', _, _, by omega, by go_num, HA3.out, HYL.out _, HSt.out _ _ _ hL2.out⟩
          case measure => simp [intOf]
    · obtain rfl : m = 0 := by omega
      have hyl' := hyl.out
      have hat3 := hat2.out
      have hO := hid hL.out.o
      have hS := hid hL.out.s
      clear hL hyl hat2
      go_wp2
      go_ret
      exact ⟨_, _, ys, at2, rfl, hyl', by omega, hO.out, hS.out⟩
set_option maxRecDepth 100000 in
set_option maxHeartbeats 4000000 in
theorem drawPulsesFault_calls (a : Option Addr) (cap : Nat) (bs : List Int) (w0 : World) (hsl : Sl .u8 w0 (.slice a bs.length cap) bs) (hbd : ∀ x ∈ bs, 0 ≤ x ∧ x ≤ 255) (hlen : bs.length ≤ 1048576) :
    Calls Try.prog 30 #[.slice a bs.length cap] w0 fun e w' => ∃ (u : Value) (ys : List Int) (k : Int), e = .returned (.tuple #[u, .int .i64 k]) ∧ OwI w0.heap.size w' u ys ∧ ys.length ≤ 6 ∧ Below w0.heap.size w0 w' := by
  have H := hid (l1Source_calls a cap bs w0 w0 (Below.refl _ _) hsl hbd hlen)
  clear hsl hbd hlen
  go_enter Try.func30, Try.ntmps30
  go_wp2_with fail
  refine H.out.mono ?_
  rintro e w1 ⟨g, rfl, hs1, _⟩
  have Hs1 := hid hs1
  clear hs1 H
  go_wp2_with fail
  refine (l1Pick_lit w0 _ g a cap bs _ 6 2 [0, 1, 2, 4, 6, 8] _ Hs1.out (by omega) rfl rfl (by omega) (by omega)).mono ?_
  rintro e w2 ⟨k, rfl, hm, hs2, _⟩
  have hkb : 0 ≤ k ∧ k ≤ 8 := by simp at hm; omega
  obtain ⟨kn, rfl⟩ := Int.eq_ofNat_of_zero_le hkb.1
  have Hs2 := hid hs2
  clear hs2 Hs1 hm
  go_wp2_with fail
  refine (l1Pick_lit w0 _ g a cap bs _ 6 2 [1, 2, 3, 4, 2, 4] _ Hs2.out (by omega) rfl rfl (by omega) (by omega)).mono ?_
  rintro e w3 ⟨d, rfl, hm, hs3, _⟩
  have hdb : 1 ≤ d ∧ d ≤ 4 := by simp at hm; omega
  obtain ⟨dn, rfl⟩ := Int.eq_ofNat_of_zero_le (show 0 ≤ d by omega)
  have Hs3 := hid hs3
  clear hs3 Hs2 hm
  go_wp2_with fail
  refine (l11Draw_calls w0 _ g a cap bs _ dn kn Hs3.out (by omega) (by omega) (by omega) (by omega)).mono ?_
  rintro e w4 ⟨gl, cl, ys, at2, rfl, hyl, hat2, hO, hs4⟩
  have hbase := Hs3.out.2.1.size
  have hgl := hO.block gl rfl
  have hgw := src_lt Hs3.out
  have HO4 := hid (App.Ow.mono hO hbase)
  have Hs4 := hid hs4
  have hyI : (1 : Int) ≤ (dn : Int) := by omega
  have Hyl := hid hyl
  clear hs4 hO Hs3 hyl
  go_wp2_with fail
  refine (l1Next_calls w0 _ g a cap bs _ _ Hs4.out (by omega) (by omega) (by omega)).mono ?_
  rintro e w5 ⟨r, rfl, hr0, hr1, hs5, hg5⟩
  have HO5 := hid (Ow.keptNe HO4.out hg5 (fun j e => by cases e; simp [Value.ownBlock]; omega))
  have Hs5 := hid hs5
  clear hs5 hg5 Hs4 HO4
  have hr : r = 0 ∨ r = 1 ∨ r = 2 ∨ r = 3 ∨ 4 ≤ r := by omega
  rcases hr with rfl | rfl | rfl | rfl | hr4
  · go_wp2_with fail
    refine (l1Pick_lit w0 _ g a cap bs _ 4 2 [9, -9, 9223372036854775807, -9223372036854775808] _ Hs5.out (by omega) rfl rfl (by omega) (by omega)).mono ?_
    rintro e w6 ⟨x, rfl, _, hs6, hg6⟩
    have HO6 := hid (Ow.keptNe (HO5.out.alloc _) hg6 (fun j e => by cases e; simp [Value.ownBlock]; omega))
    have hset := HO6.out.set Hyl.out.symm 0 x
    obtain ⟨_, x2⟩ := HO6.out.cellAt Hyl.out.symm 0 (by rw [Hyl.out]; omega)
    obtain ⟨x1, _⟩ := HO6.out.cellAt Hyl.out.symm 0 (by rw [Hyl.out]; omega)
    have HSt := hid hset.1
    have HB6 := hid (hs6.2.1.trans (below_of_grown hset.2 hs6.2.1.size (fun j e => by cases e; omega)))
    have HL : Hid ((ys.set 0 x).length ≤ 6) := by show _ ≤ _; rw [List.length_set, Hyl.out]; omega
    clear hset hs6 hg6 HO5 Hs5 HO6
    go_wp2
    go_ret2
    exact ⟨_, _, _, rfl, HSt.out, HL.out, HB6.out⟩
  · go_wp2_with fail
    refine (l1Pick_lit w0 _ g a cap bs _ 3 2 [-1, 9, 3] _ Hs5.out (by omega) rfl rfl (by omega) (by omega)).mono ?_
    rintro e w6 ⟨x, rfl, _, hs6, hg6⟩
    have HO6 := hid (Ow.keptNe (HO5.out.alloc _) hg6 (fun j e => by cases e; simp [Value.ownBlock]; omega))
    have HB6 := hid hs6.2.1
    have HL : Hid (ys.length ≤ 6) := by show _ ≤ _; rw [Hyl.out]; omega
    clear hs6 hg6 HO5 Hs5
    go_wp2
    go_ret2
    exact ⟨_, _, _, rfl, HO6.out, HL.out, HB6.out⟩
  · have HO6 := hid (HO5.out.alloc (.cells #[.int .i64 0, .int .i64 0] 2))
    have HB6 := hid (bmore Hs5.out.2.1 (.cells #[.int .i64 0, .int .i64 0] 2))
    have hsz := Hs5.out.2.1.size
    clear HO5 Hs5
    go_wp2_with (at_builtin; refine wpList_append_ints _ rfl _ _ rfl w0.heap.size _ ys rfl ?own _ [0, 0] rfl (sl_lit _ _ _ _ _ _ rfl rfl) (by simp) ?c1 ?c2 ?_)
    case own => exact HO6.out
    case c1 => have := Hyl.out; simp only [List.length_cons, List.length_nil]; omega
    case c2 => simp; omega
    intro g7 cap7 n7 w7 hn7 ho7 hg7 _
    have HB7 := hid (HB6.out.trans (below_of_grown hg7 (by simp; omega) (fun j e => (HO6.out.block j e).1)))
    have HO7 := hid ho7
    have HL : Hid ((ys ++ [0, 0]).length ≤ 6) := by show _ ≤ _; rw [List.length_append, Hyl.out]; simp; omega
    clear hn7 ho7 hg7 HO6 HB6
    go_wp2
    go_ret2
    exact ⟨_, _, _, rfl, HO7.out, HL.out, HB7.out⟩
  · have HB5 := hid Hs5.out.2.1
    clear HO5 Hs5
    go_wp2
    go_ret2
    exact ⟨_, [], _, rfl, World.ownsRow_nil _ _ _ _, by simp, HB5.out⟩
  · have b0 : (r == 0) = false := by simp; omega
    have b1 : (r == 1) = false := by simp; omega
    have b2 : (r == 2) = false := by simp; omega
    have b3 : (r == 3) = false := by simp; omega
    have HB5 := hid Hs5.out.2.1
    have HL : Hid (ys.length ≤ 6) := by show _ ≤ _; rw [Hyl.out]; omega
    clear Hs5
    go_wp2
    go_ret2
    exact ⟨_, _, _, rfl, HO5.out, HL.out, HB5.out⟩
theorem drawIndexPulses_calls (a : Option Addr) (cap : Nat) (bs : List Int) (w0 : World) (hsl : Sl .u8 w0 (.slice a bs.length cap) bs) (hbd : ∀ x ∈ bs, 0 ≤ x ∧ x ≤ 255) (hlen : bs.length ≤ 1048576) :
    Calls Try.prog 10 #[.slice a bs.length cap] w0 fun e w' => ∃ (u : Value) (ys : List Int) (k : Int), e = .returned (.tuple #[u, .int .i64 k]) ∧ OwI w0.heap.size w' u ys ∧ ys.length ≤ 6 ∧ Below w0.heap.size w0 w' := by
  have H := hid (drawPulsesFault_calls a cap bs w0 hsl hbd hlen)
  clear hsl hbd hlen
  go_enter Try.func10, Try.ntmps10
  go_wp2_with fail
  refine H.out.mono ?_
  rintro e w1 ⟨u, ys, k, rfl, hO, hl, hB⟩
  have HO := hid hO
  have HB := hid hB
  clear hO hB H
  go_wp2
  go_ret2
  exact ⟨_, _, _, rfl, HO.out, hl, HB.out⟩
end Go.Proofs.Ytpoannaidojmoaa.PulD
