/- The program's bands: how many are low, the bands, their norms, the mask. Conditions: lists of at most 1048576 numbers that fit their memory. -/
import Derived.Test.YtodfkicmmcfkaaaBanN
import Derived.Test.YtodfkicmmcfkaaaBaL
import Derived.Test.YtodfkicmmcfkaaaBanT
import Derived.Test.YtodfkicmmcfkaaaBkI
import Derived.Test.YtodfkicmmcfkaaaIntA
import Derived.Maps.AppendAt
import Derived.RangeFuncBox
import Derived.Deep.DeepCutAuto
namespace Go.Proofs.Ytodfkicmmcfkaaa.BanJ
open Go.ChangeShapes Go.WideShapes Go.ChangeAt Go.RowKit Go.Maps Go.Proofs.Ytodfkicmmcfkaaa.Num Go.Proofs.Ytodfkicmmcfkaaa.Div Go.Proofs.Ytodfkicmmcfkaaa.Samp Go.Proofs.Ytodfkicmmcfkaaa.Sli Go.Proofs.Ytodfkicmmcfkaaa.App Go.Proofs.Ytodfkicmmcfkaaa.Blk Go.Proofs.Ytodfkicmmcfkaaa.Norm Go.Proofs.Ytodfkicmmcfkaaa.IntL Go.Proofs.Ytodfkicmmcfkaaa.IntA Go.Proofs.Ytodfkicmmcfkaaa.HalM Go.Proofs.Ytodfkicmmcfkaaa.BloS Go.Proofs.Ytodfkicmmcfkaaa.BkI Go.Proofs.Ytodfkicmmcfkaaa.BanM Go.Proofs.Ytodfkicmmcfkaaa.BanN Go.Proofs.Ytodfkicmmcfkaaa.BaL Go.Proofs.Ytodfkicmmcfkaaa.BanT

theorem sz_or {s : Int} (h : szF s = 0) : s = 4 ∨ s = 8 ∨ s = 16 := by
  unfold szF at h
  by_cases q : s = 4 ∨ s = 8 ∨ s = 16
  · exact q
  · rw [if_neg q] at h; omega
theorem middle_calls (s : Int) (w : World) (hs : s = 4 ∨ s = 8 ∨ s = 16) :
    Calls Try.prog 60 #[.int .i64 s] w fun e w' => e = .returned (.int .i64 (s / 2)) ∧ w' = w := by
  have hm0 : s.tdiv 2 = s / 2 := by rw [Int.tdiv_eq_ediv_of_nonneg (by omega)]
  have hbd : 0 ≤ s / 2 ∧ s / 2 ≤ 8 := by omega
  clear hs
  generalize s / 2 = m at *
  go_enter Try.func60, Try.ntmps60
  go_wp2
  go_ret
  exact ⟨rfl, rfl⟩
theorem lows_calls (s : Int) (w : World) (hs : s = 4 ∨ s = 8 ∨ s = 16) :
    Calls Try.prog 38 #[.int .i64 s] w fun e w' => e = .returned (.agg #[.int .i64 0, .int .i64 (s / 2)]) ∧ Below w.heap.size w w' := by
  have HM := hid (fun W => middle_calls s W hs)
  have hbd : 0 ≤ s / 2 ∧ s / 2 ≤ 8 := by omega
  clear hs
  generalize s / 2 = m at *
  go_enter Try.func38, Try.ntmps38
  go_wp2_with fail
  refine (HM.out _).mono ?_
  rintro e w' ⟨rfl, rfl⟩
  go_wp2
  exact bodyPost_ret (v := .agg #[.int .i64 0, .int .i64 m]) (by simp [results, Try.results38, go_sem]) rfl ⟨rfl, bmore (Below.refl _ _) _⟩
theorem highs_calls (s : Int) (w : World) (hs : s = 4 ∨ s = 8 ∨ s = 16) :
    Calls Try.prog 40 #[.int .i64 s] w fun e w' => e = .returned (.agg #[.int .i64 (s / 2), .int .i64 (s / 2)]) ∧ Below w.heap.size w w' := by
  have HM := hid (fun W => middle_calls s W hs)
  have hbd : 0 ≤ s / 2 ∧ s / 2 ≤ 8 := by omega
  clear hs
  generalize s / 2 = m at *
  go_enter Try.func40, Try.ntmps40
  go_wp2_with fail
  refine (HM.out _).mono ?_
  rintro e w' ⟨rfl, rfl⟩
  go_wp2_with fail
  refine (HM.out _).mono ?_
  rintro e w' ⟨rfl, rfl⟩
  go_wp2
  exact bodyPost_ret (v := .agg #[.int .i64 m, .int .i64 m]) (by simp [results, Try.results40, go_sem]) rfl ⟨rfl, bmore (Below.refl _ _) _⟩
theorem fieldB0 (c a : Value) (w : World) : (Instr.field 40 (.agg #[c, a]) 0).run Try.prog w = .ok c w := by kernel_rfl
theorem fieldB1 (c a : Value) (w : World) : (Instr.field 40 (.agg #[c, a]) 1).run Try.prog w = .ok a w := by kernel_rfl
theorem implLowCount_calls (s : Int) (w : World) : Calls Try.prog 13 #[.int .i64 s] w fun e w' => e = .returned (.agg #[.int .i64 (lcC s), .int .i64 (lcV s)]) ∧ Below w.heap.size w w' := by
  have HS := hid (implSizeFault_calls s)
  by_cases h : szF s = 0
  · have H : Hid (0 = lcC s ∧ s / 2 = lcV s) := ⟨h.symm, (if_pos h).symm⟩
    have HM := hid (fun W => lows_calls s W (sz_or h))
    have hf1 := fieldB1
    have HK := hid (Blk.new w #[.int .i64 0, .int .i64 0] 31)
    have HL := hid (bmore (Below.refl _ w) (.cells #[.int .i64 0, .int .i64 0] 31))
    rw [h] at HS
    clear h
    generalize s / 2 = m at *
    go_enter Try.func13, Try.ntmps13
    go_wp2_with fail
    refine (HS.out _).mono ?_
    rintro e w' ⟨rfl, rfl⟩
    go_wp2_with fail
    refine (HM.out _).mono ?_
    rintro e w1 ⟨rfl, hb⟩
    have hK := HK.out.later hb
    obtain ⟨c0, c1, f0, f1⟩ := hK.two
    have HR := hid (below_set2 (bthen HL.out hb) (.int .i64 0) (.int .i64 m))
    clear hK hb
    go_wp2
    exact bodyPost_ret (v := .agg #[.int .i64 0, .int .i64 m]) (by simp [results, Try.results13, go_sem, c0, c1]) rfl ⟨ret_two H.out.1 H.out.2, HR.out⟩
  · have H : Hid (szF s = lcC s ∧ 0 = lcV s) := ⟨rfl, (if_neg h).symm⟩
    have bq : (szF s != 0) = true := by simpa using h
    generalize szF s = c at *
    clear h
    go_enter Try.func13, Try.ntmps13
    go_wp2_with fail
    refine (HS.out _).mono ?_
    rintro e w' ⟨rfl, rfl⟩
    go_wp2
    exact bodyPost_ret (v := .agg #[.int .i64 c, .int .i64 0]) (by simp [results, Try.results13, go_sem]) rfl ⟨ret_two H.out.1 H.out.2, bmore (Below.refl _ _) _⟩
theorem infoB : (Try.prog.info? 40).map (fun i => (i.zero, i.size, i.bytes)) = some (some (.agg #[.int .i64 0, .int .i64 0]), 2, 16) := by kernel_rfl
/-- Where the k-th band begins. -/
def bP (s : Int) (k : Nat) : Int := s / 2 + (bD s : Int) * (k : Int)
theorem bP_step (s : Int) (k : Nat) : bP s (k + 1) = bP s k + (bD s : Int) := by
  unfold bP
  rw [Int.natCast_add, Int.mul_add]
  have : (bD s : Int) * ((1 : Nat) : Int) = (bD s : Int) := by simp
  omega
theorem bP_bd {s : Int} (hs : s = 4 ∨ s = 8 ∨ s = 16) {k : Nat} (hk : k ≤ bC s) : 2 ≤ bP s k ∧ bP s k ≤ s ∧ (bP s k < s ↔ k < bC s) := by
  rcases hs with rfl | rfl | rfl
  · have : bC 4 = 1 := rfl
    have : k = 0 ∨ k = 1 := by omega
    rcases this with rfl | rfl <;> decide
  · have : bC 8 = 2 := rfl
    have : k = 0 ∨ k = 1 ∨ k = 2 := by omega
    rcases this with rfl | rfl | rfl <;> decide
  · have : bC 16 = 2 := rfl
    have : k = 0 ∨ k = 1 ∨ k = 2 := by omega
    rcases this with rfl | rfl | rfl <;> decide
theorem bn_take {s : Int} (h : s = 4 ∨ s = 8 ∨ s = 16) {k : Nat} (hk : k < bC s) : (bnL s).take (k + 1) = (bnL s).take k ++ [(bP s k, (bD s : Int))] := by
  have := bn_get h hk
  have hl := bn_len h
  rw [List.take_add_one, ← show (bnL s).getD k (0, 0) = (bP s k, (bD s : Int)) from this, List.getD_eq_getElem?_getD, List.getElem?_eq_getElem (by omega)]; simp
set_option maxRecDepth 100000 in
set_option maxHeartbeats 1000000 in
theorem bands_calls (s : Int) (w : World) (hs : s = 4 ∨ s = 8 ∨ s = 16) :
    Calls Try.prog 43 #[.int .i64 s] w fun e w' => ∃ g c : Nat, e = .returned (.slice (some ⟨g, 0, none⟩) (bC s) c) ∧ OwB w.heap.size w' (.slice (some ⟨g, 0, none⟩) (bC s) c) (bnL s) ∧ Below w.heap.size w w' := by
  obtain ⟨i0, hi, hz0, hz1, hz2⟩ := info_parts infoB
  have hf0 := fieldB0
  have HH := hid (fun W => highs_calls s W hs)
  have hqd : (s / 4 < 2 ∧ (bD s : Int) = 2) ∨ (2 ≤ s / 4 ∧ (bD s : Int) = s / 4) := by rcases hs with rfl | rfl | rfl <;> decide
  have hq : s.tdiv 4 = s / 4 := by rw [Int.tdiv_eq_ediv_of_nonneg (by omega)]
  have hq2 : 0 ≤ s / 4 ∧ s / 4 ≤ 4 := by omega
  have hp0 : s / 2 = bP s 0 := by unfold bP; simp
  have HP := hid (fun (k : Nat) (h : k ≤ bC s) => bP_bd hs h)
  have HT := hid (fun (k : Nat) (h : k < bC s) => bn_take hs h)
  have HS := hid (bP_step s)
  have HL := hid (bn_len hs)
  have hbc := bc_or s
  have hs0 : 4 ≤ s ∧ s ≤ 16 := by omega
  rw [hp0] at HH
  clear hs hp0
  generalize bnL s = L at *
  generalize bP s = p at *
  generalize (bD s : Int) = d at *
  generalize bC s = m at *
  generalize s / 4 = q at *
  rcases hqd with ⟨hqq, rfl⟩ | ⟨hqq, rfl⟩
  · go_enter Try.func43, Try.ntmps43
    go_wp2_with fail
    refine (HH.out _).mono ?_
    rintro e w1 ⟨rfl, hb1⟩
    have HB1 := hid hb1
    clear hb1 HH
    go_wp2_with fail
    go_loopw [4, 5] (fun v f wr => ∃ (k c : Nat) (a : Option Addr), v = .slice a k c ∧ f = .int .i64 (p k) ∧ k ≤ m ∧ Hid (OwB w.heap.size wr (.slice a k c) (L.take k)) ∧ Hid (Below w.heap.size w wr)) (fun _ f _ => 17 - (intOf f).toNat)
    case atStart => exact ⟨0, 0, none, rfl, rfl, Nat.zero_le _, owB_nil _ _, HB1.out⟩
    case round =>
      clear HB1
      obtain ⟨k, c, a, rfl, rfl, hk, ho, hb⟩ := hrel
      have hpk := HP.out k hk
      by_cases hlt : k < m
      · have hps := HS.out k
        have HTk := hid (HT.out k hlt)
        have hps1 := HP.out (k + 1) (by omega)
        have hx : p k < s := hpk.2.2.2 hlt
        have hlk : Hid ((L.take k).length = k) := by show _ = _; rw [List.length_take, HL.out]; omega
        obtain ⟨hp1, hp2, _⟩ := hpk
        obtain ⟨hp3, hp4, _⟩ := hps1
        have hrow : Hid (wr.ownsRow w.heap.size 40 2 (.slice a k c) k (flat (L.take k))) := by show World.ownsRow _ _ _ _ _ _ _; have q : wr.ownsRow w.heap.size 40 2 (.slice a k c) (L.take k).length (flat (L.take k)) := ho.out; rw [hlk.out] at q; exact q
        have hbl := hid (fun j e => (ho.out.lt j e).1)
        have hro : Hid (∀ o, (wr.alloc o).ownsRow w.heap.size 40 2 (.slice a k c) k (flat (L.take k))) := fun o => World.ownsRow.kept (row := none) hrow.out ⟨rfl, rfl, rfl, by simp, fun j hj _ => Below.heap_alloc wr _ j hj⟩ (by generalize (Value.slice a k c).ownBlock = z; cases z <;> simp)
        clear ho
        generalize L.take k = K at *
        generalize hpp : p k = x at *
        generalize hpn : p (k + 1) = y at *
        have HY := hid hpn
        clear hpp hpn
        go_wp2_with (at_builtin; refine wpList_append_own_at _ rfl _ _ 33 rfl w.heap.size 40 i0 (.agg #[.int .i64 0, .int .i64 0]) 2 16 Try.underlying33 hi hz0 hz1 hz2 rfl (by decide) (.slice a k c) k (flat K) rfl (hro.out _) ⟨wr.heap.size, 0, none⟩ 1 1 [.int .i64 x, .int .i64 2] rfl rfl ?c1 ?c2 ?c3 ?c4 ?c5 ?_)
        case c1 =>
          intro j u hj
          have hb := Blk.new wr #[.int .i64 x, .int .i64 2] 40
          have := hb.cell j
          rw [Addr.add_lit, Nat.zero_add, this, ← hj]
          simp
        case c2 => simp [Value.oneCell']
        case c3 => rw [show maxLen = 9223372036854775807 by decide]; omega
        case c4 => omega
        case c5 => have := hb.out.size; simp; omega
        intro v6 w6 ho6 hg6 _ _
        have HO6 : Hid (OwB w.heap.size w6 v6 (L.take (k + 1))) := by
          rw [HTk.out]
          show World.ownsRow _ _ _ _ _ (K ++ [(x, 2)]).length (flat (K ++ [(x, 2)]))
          rw [List.length_append, flat_append, hlk.out]
          exact ho6
        have HB6 := hid ((bmore hb.out (.cells #[.int .i64 x, .int .i64 2] 40)).grown hg6 (by have := hb.out.size; simp; omega) hbl.out)
        obtain ⟨g6, c6, rfl⟩ := ownsRow_succ ho6
        clear ho6 hg6 HTk hrow hro hbl hb hlk
        go_wp2
        go_roundw
        case rel => exact ⟨k + 1, c6, _, rfl, by rw [HY.out]; go_num, by omega, HO6.out, HB6.out⟩
        case measure => simp [intOf]; omega
      · obtain rfl : k = m := by omega
        have hx : ¬ p k < s := fun h => hlt (hpk.2.2.1 h)
        have ho2 := ho.out
        rw [List.take_of_length_le (by rw [HL.out]; exact Nat.le_refl _)] at ho2
        obtain ⟨k', rfl⟩ : ∃ k', k = k' + 1 := ⟨k - 1, by omega⟩
        have ho3 : wr.ownsRow w.heap.size 40 2 (.slice a (k' + 1) c) (k' + 1) (flat L) := by have h' : wr.ownsRow w.heap.size 40 2 (.slice a (k' + 1) c) L.length (flat L) := ho2; rw [HL.out] at h'; exact h'
        obtain ⟨g, c', he⟩ := ownsRow_succ ho3
        cases he
        have HO := hid ho2
        clear ho ho2 ho3 HT HP
        generalize p (k' + 1) = x at *
        go_wp2
        go_ret
        exact ⟨g, _, rfl, HO.out, hb.out⟩
  · go_enter Try.func43, Try.ntmps43
    go_wp2_with fail
    refine (HH.out _).mono ?_
    rintro e w1 ⟨rfl, hb1⟩
    have HB1 := hid hb1
    clear hb1 HH
    go_wp2_with fail
    go_loopw [4, 5] (fun v f wr => ∃ (k c : Nat) (a : Option Addr), v = .slice a k c ∧ f = .int .i64 (p k) ∧ k ≤ m ∧ Hid (OwB w.heap.size wr (.slice a k c) (L.take k)) ∧ Hid (Below w.heap.size w wr)) (fun _ f _ => 17 - (intOf f).toNat)
    case atStart => exact ⟨0, 0, none, rfl, rfl, Nat.zero_le _, owB_nil _ _, HB1.out⟩
    case round =>
      clear HB1
      obtain ⟨k, c, a, rfl, rfl, hk, ho, hb⟩ := hrel
      have hpk := HP.out k hk
      by_cases hlt : k < m
      · have hps := HS.out k
        have HTk := hid (HT.out k hlt)
        have hps1 := HP.out (k + 1) (by omega)
        have hx : p k < s := hpk.2.2.2 hlt
        have hlk : Hid ((L.take k).length = k) := by show _ = _; rw [List.length_take, HL.out]; omega
        obtain ⟨hp1, hp2, _⟩ := hpk
        obtain ⟨hp3, hp4, _⟩ := hps1
        have hrow : Hid (wr.ownsRow w.heap.size 40 2 (.slice a k c) k (flat (L.take k))) := by show World.ownsRow _ _ _ _ _ _ _; have q : wr.ownsRow w.heap.size 40 2 (.slice a k c) (L.take k).length (flat (L.take k)) := ho.out; rw [hlk.out] at q; exact q
        have hbl := hid (fun j e => (ho.out.lt j e).1)
        have hro : Hid (∀ o, (wr.alloc o).ownsRow w.heap.size 40 2 (.slice a k c) k (flat (L.take k))) := fun o => World.ownsRow.kept (row := none) hrow.out ⟨rfl, rfl, rfl, by simp, fun j hj _ => Below.heap_alloc wr _ j hj⟩ (by generalize (Value.slice a k c).ownBlock = z; cases z <;> simp)
        clear ho
        generalize L.take k = K at *
        generalize hpp : p k = x at *
        generalize hpn : p (k + 1) = y at *
        have HY := hid hpn
        clear hpp hpn
        go_wp2_with (at_builtin; refine wpList_append_own_at _ rfl _ _ 33 rfl w.heap.size 40 i0 (.agg #[.int .i64 0, .int .i64 0]) 2 16 Try.underlying33 hi hz0 hz1 hz2 rfl (by decide) (.slice a k c) k (flat K) rfl (hro.out _) ⟨wr.heap.size, 0, none⟩ 1 1 [.int .i64 x, .int .i64 d] rfl rfl ?c1 ?c2 ?c3 ?c4 ?c5 ?_)
        case c1 =>
          intro j u hj
          have hb := Blk.new wr #[.int .i64 x, .int .i64 d] 40
          have := hb.cell j
          rw [Addr.add_lit, Nat.zero_add, this, ← hj]
          simp
        case c2 => simp [Value.oneCell']
        case c3 => rw [show maxLen = 9223372036854775807 by decide]; omega
        case c4 => omega
        case c5 => have := hb.out.size; simp; omega
        intro v6 w6 ho6 hg6 _ _
        have HO6 : Hid (OwB w.heap.size w6 v6 (L.take (k + 1))) := by
          rw [HTk.out]
          show World.ownsRow _ _ _ _ _ (K ++ [(x, d)]).length (flat (K ++ [(x, d)]))
          rw [List.length_append, flat_append, hlk.out]
          exact ho6
        have HB6 := hid ((bmore hb.out (.cells #[.int .i64 x, .int .i64 d] 40)).grown hg6 (by have := hb.out.size; simp; omega) hbl.out)
        obtain ⟨g6, c6, rfl⟩ := ownsRow_succ ho6
        clear ho6 hg6 HTk hrow hro hbl hb hlk
        go_wp2
        go_roundw
        case rel => exact ⟨k + 1, c6, _, rfl, by rw [HY.out]; go_num, by omega, HO6.out, HB6.out⟩
        case measure => simp [intOf]; omega
      · obtain rfl : k = m := by omega
        have hx : ¬ p k < s := fun h => hlt (hpk.2.2.1 h)
        have ho2 := ho.out
        rw [List.take_of_length_le (by rw [HL.out]; exact Nat.le_refl _)] at ho2
        obtain ⟨k', rfl⟩ : ∃ k', k = k' + 1 := ⟨k - 1, by omega⟩
        have ho3 : wr.ownsRow w.heap.size 40 2 (.slice a (k' + 1) c) (k' + 1) (flat L) := by have h' : wr.ownsRow w.heap.size 40 2 (.slice a (k' + 1) c) L.length (flat L) := ho2; rw [HL.out] at h'; exact h'
        obtain ⟨g, c', he⟩ := ownsRow_succ ho3
        cases he
        have HO := hid ho2
        clear ho ho2 ho3 HT HP
        generalize p (k' + 1) = x at *
        go_wp2
        go_ret
        exact ⟨g, _, rfl, HO.out, hb.out⟩
theorem implBandsOf_calls (s : Int) (w : World) : Calls Try.prog 12 #[.int .i64 s] w fun e w' => ∃ u, e = .returned (.agg #[.int .i64 (bsC s), u]) ∧ OwB w.heap.size w' u (bsL s) ∧ Below w.heap.size w w' := by
  have HS := hid (implSizeFault_calls s)
  by_cases hz : szF s = 0
  · have H : Hid (0 = bsC s ∧ bnL s = bsL s) := ⟨hz.symm, (if_pos hz).symm⟩
    have HB := hid (fun W => bands_calls s W (sz_or hz))
    rw [hz] at HS
    clear hz
    go_enter Try.func12, Try.ntmps12
    go_wp2_with (go_at_call 42; refine (HS.out _).mono ?_; rintro e w' ⟨rfl, rfl⟩)
    refine (HB.out _).mono ?_
    rintro e w1 ⟨g, c, rfl, ho, hb⟩
    have hK := (Blk.new w #[.int .i64 0, .slice none 0 0] 35).later hb
    obtain ⟨c0, c1, f0, f1⟩ := hK.two
    have HL := hid (bthen (bmore (Below.refl _ w) (.cells #[.int .i64 0, .slice none 0 0] 35)) hb)
    have HO := hid (ho.mono (base' := w.heap.size + 1) (by rw [World.size_alloc]; exact Nat.le_refl _))
    clear hK hb ho HB
    generalize bC s = n at *
    go_wp2
    exact bodyPost_ret (v := .agg #[.int .i64 0, .slice (some ⟨g, 0, none⟩) n c]) (by simp [results, Try.results12, go_sem, c0, c1]) rfl ⟨_, by rw [← H.out.1], by rw [← H.out.2]; exact HO.out.setR _ _, below_set2 HL.out _ _⟩
  · have H : Hid (szF s = bsC s ∧ [] = bsL s) := ⟨rfl, (if_neg hz).symm⟩
    have b1 : (szF s != 0) = true := by simpa using hz
    clear hz
    generalize szF s = c at *
    go_enter Try.func12, Try.ntmps12
    go_wp2_with (go_at_call 42; refine (HS.out _).mono ?_; rintro e w' ⟨rfl, rfl⟩)
    exact bodyPost_ret (v := .agg #[.int .i64 c, .slice none 0 0]) (by simp [results, Try.results12, go_sem]) rfl ⟨_, by rw [← H.out.1], by rw [← H.out.2]; exact owB_nil _ _, bmore (Below.refl _ _) _⟩
/-- What is asked of a list that is a block's (as FcI has it). -/
theorem blockIn_calls (v : Value) (l : List Int) (w : World) (h : Sl .i64 w v l) (hm : l.length ≤ 1048576) :
    Calls Try.prog 59 #[v, .int .i64 (-16777216), .int .i64 16777216] w fun e w' => e = .returned (.int .i64 (akC 16777216 l)) ∧ w' = w := by
  have HS := hid (implSizeFault_calls (l.length : Int))
  have HA := hid (fun W (hW : Sl .i64 W v l) => areIn_calls v l (-16777216) 16777216 W hW hm)
  have Hs := hid h
  obtain ⟨a, cap, rfl, _⟩ := h
  cases h3 : is3 l.length
  · have hz : szF (l.length : Int) = 3 := by
      by_cases q : szF (l.length : Int) = 0
      · rw [sz_len.1 q] at h3; cases h3
      · unfold szF at q ⊢
        by_cases q2 : (l.length : Int) = 4 ∨ (l.length : Int) = 8 ∨ (l.length : Int) = 16
        · rw [if_pos q2] at q; exact absurd rfl q
        · rw [if_neg q2]
    have HE : Hid (akC 16777216 l = 2) := by show _ = _; unfold akC; rw [if_neg (by rw [h3]; simp)]
    rw [hz] at HS
    clear hz h3 HA
    go_enter Try.func59, Try.ntmps59
    go_wp2_with (go_at_call 42; refine (HS.out _).mono ?_; rintro e w' ⟨rfl, rfl⟩)
    go_ret
    exact ⟨by rw [HE.out]; rfl, rfl⟩
  · have hz : szF (l.length : Int) = 0 := sz_len.2 h3
    rw [hz] at HS
    cases ha : l.all (inB (-16777216) 16777216)
    · have HE : Hid (akC 16777216 l = 3) := by show _ = _; unfold akC; rw [if_pos h3, if_neg (by rw [ha]; simp)]
      rw [ha] at HA
      clear hz h3 ha
      go_enter Try.func59, Try.ntmps59
      go_wp2_with (first | (go_at_call 42; refine (HS.out _).mono ?_; rintro e w' ⟨rfl, rfl⟩) | (go_at_call 71; refine (HA.out _ Hs.out).mono ?_; rintro e w' ⟨rfl, rfl⟩))
      go_ret
      exact ⟨by rw [HE.out]; rfl, rfl⟩
    · have HE : Hid (akC 16777216 l = 0) := by show _ = _; unfold akC; rw [if_pos h3, if_pos ha]
      rw [ha] at HA
      clear hz h3 ha
      go_enter Try.func59, Try.ntmps59
      go_wp2_with (first | (go_at_call 42; refine (HS.out _).mono ?_; rintro e w' ⟨rfl, rfl⟩) | (go_at_call 71; refine (HA.out _ Hs.out).mono ?_; rintro e w' ⟨rfl, rfl⟩))
      go_ret
      exact ⟨by rw [HE.out]; rfl, rfl⟩
theorem coefsFault_calls (s : Int) (v : Value) (l : List Int) (w : World) (h : Sl .i64 w v l) (hm : l.length ≤ 1048576) :
    Calls Try.prog 35 #[.int .i64 s, v] w fun e w' => e = .returned (.int .i64 (cfC s l)) ∧ w' = w := by
  have HS := hid (implSizeFault_calls s)
  have HA := hid (fun W (hW : Sl .i64 W v l) => blockIn_calls v l W hW hm)
  have Hs := hid h
  obtain ⟨a, cap, rfl, _⟩ := h
  by_cases hz : szF s = 0
  · rw [hz] at HS
    by_cases hl : (l.length : Int) = s
    · have H : Hid (akC 16777216 l = cfC s l) := by show _ = _; unfold cfC; rw [if_pos hz, if_pos hl]
      have b1 : ((l.length : Int) != s) = false := by simpa using hl
      clear hz hl
      generalize akC 16777216 l = c at *
      go_enter Try.func35, Try.ntmps35
      go_wp2_with (first | (go_at_call 42; refine (HS.out _).mono ?_; rintro e w' ⟨rfl, rfl⟩) | (go_at_call 59; refine (HA.out _ Hs.out).mono ?_; rintro e w' ⟨rfl, rfl⟩))
      go_ret
      exact ⟨by rw [← H.out]; rfl, rfl⟩
    · have H : Hid (2 = cfC s l) := by show _ = _; unfold cfC; rw [if_pos hz, if_neg hl]
      have b1 : ((l.length : Int) != s) = true := by simpa using hl
      clear hz hl HA
      go_enter Try.func35, Try.ntmps35
      go_wp2_with (go_at_call 42; refine (HS.out _).mono ?_; rintro e w' ⟨rfl, rfl⟩)
      go_ret
      exact ⟨by rw [← H.out]; rfl, rfl⟩
  · have H : Hid (szF s = cfC s l) := by show _ = _; unfold cfC; rw [if_neg hz]
    have b1 : (szF s != 0) = true := by simpa using hz
    clear hz HA
    generalize szF s = c at *
    go_enter Try.func35, Try.ntmps35
    go_wp2_with (go_at_call 42; refine (HS.out _).mono ?_; rintro e w' ⟨rfl, rfl⟩)
    go_ret
    exact ⟨by rw [← H.out]; rfl, rfl⟩
end Go.Proofs.Ytodfkicmmcfkaaa.BanJ
