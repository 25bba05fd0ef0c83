/- The program's readValues: as many values as are asked, or a panic. -/
import Derived.Test.YthecfboplfmdmaaDoorRdK
import Derived.Test.YthecfboplfmdmaaDoorEncV
import Derived.Test.YthecfboplfmdmaaDoorIntL
namespace Go.Proofs.YthecfboplfmdmaaDoor.RdL
open Go.ChangeShapes Go.WideShapes Go.ChangeAt Go.RowKit Go.Proofs.YthecfboplfmdmaaDoor.Num Go.Proofs.YthecfboplfmdmaaDoor.Sli Go.Proofs.YthecfboplfmdmaaDoor.App Go.Proofs.YthecfboplfmdmaaDoor.CrcM Go.Proofs.YthecfboplfmdmaaDoor.Div Go.Proofs.YthecfboplfmdmaaDoor.Dec Go.Proofs.YthecfboplfmdmaaDoor.Blk Go.Proofs.YthecfboplfmdmaaDoor.Nxt Go.Proofs.YthecfboplfmdmaaDoor.TakS Go.Proofs.YthecfboplfmdmaaDoor.TakT Go.Proofs.YthecfboplfmdmaaDoor.StaI Go.Proofs.YthecfboplfmdmaaDoor.RangeM Go.Proofs.YthecfboplfmdmaaDoor.SlS Go.Proofs.YthecfboplfmdmaaDoor.ValZ Go.Proofs.YthecfboplfmdmaaDoor.ValM Go.Proofs.YthecfboplfmdmaaDoor.EncV Go.Proofs.YthecfboplfmdmaaDoor.RdM Go.Proofs.YthecfboplfmdmaaDoor.RdI Go.Proofs.YthecfboplfmdmaaDoor.RdJ Go.Proofs.YthecfboplfmdmaaDoor.RdK
open Go.Proofs.YthecfboplfmdmaaDoor.Byt (OwB infoB)
open Go.Proofs.YthecfboplfmdmaaDoor.IntL (OwI infoI)

theorem fieldT1 (c v a r n : Value) (w : World) : (Instr.field 90 (.agg #[c, v, a, r, n]) 1).run Tryd.prog w = .ok (.agg #[v, a, r, n]) w := by kernel_rfl
theorem fieldB1 (c v : Value) (w : World) : (Instr.field 27 (.agg #[c, v]) 1).run Tryd.prog w = .ok v w := by kernel_rfl
attribute [local go_sem] fieldT1 fieldB1
/-- Whether data tells n values. -/
def okB (xs : List Int) (n : Nat) : Bool := allB (rV (stD xs) n) && decide (vB (rV (stD xs) n) = xs)
theorem rV_get (d : Dv) (n k : Nat) (h : k < n) : (rV d n).getD k 0 = uz (zN (rD d k)) := by
  induction n generalizing d k with
  | zero => omega
  | succ n ih =>
    cases k with
    | zero => rfl
    | succ k => show (rV (zD d) n).getD k 0 = _; exact ih (zD d) k (by omega)
theorem all_r {d : Dv} {n : Nat} (h : ∀ j, j < n → zN (rD d j) ≤ 131070) : allB (rV d n) = true := by
  refine all_of fun j hj => ?_
  rw [rV_len] at hj
  rw [rV_get d n j hj]
  have := isV_uz (h j hj)
  exact inB_yes this.1 this.2
theorem not_r {d : Dv} {n k : Nat} (hk : k < n) (h : 131070 < zN (rD d k)) : allB (rV d n) = false := by
  refine all_not (k := k) (by rw [rV_len]; exact hk) ?_
  rw [rV_get d n k hk]
  have := uz_out h
  unfold isV at this
  exact inB_no (by omega)
/-- Numbers are appended. -/
theorem wpList_append_ints (w : World) {ops : Array Oper} {rest : List Oper} {o : Oper} {a : Act} {Q : Exit → Act → World → Prop} (hgd : o.guard = none) (s x : Operand)
    (ho : o.op = .call { callee := .builtin .append, args := #[s, x], argTypes := #[24, 24] })
    (base : Nat) (v : Value) (ys : List Int) (hs : a.eval s = v) (hown : OwI base w v ys)
    (vx : Value) (xs : List Int) (hx : a.eval x = vx) (hsl : Sl .i64 w vx xs) (hne : xs ≠ []) (hlen : ys.length + xs.length ≤ 1000000) (hbase : base ≤ w.heap.size)
    (h : ∀ g cap n w', n = (ys ++ xs).length → OwI base w' (.slice (some ⟨g, 0, none⟩) n cap) (ys ++ xs) → w.grownBy w' v.ownBlock → wpList Tryd.prog ops Q rest (a.put o.dst (.slice (some ⟨g, 0, none⟩) n cap)) w') : wpList Tryd.prog ops Q (o :: rest) a w := by
  obtain ⟨i0, hi, hz0, hz1, hz2⟩ := info_parts infoI
  obtain ⟨ax, cx, rfl, hc⟩ := hsl
  obtain ⟨b, off, rfl, hlt, hcell⟩ := hc hne
  have hpos : 0 < xs.length := by cases xs with | nil => exact absurd rfl hne | cons _ _ => simp
  have hown' : w.ownsRow base 2 1 v ys.length (ys.map (Value.int .i64)) := hown
  refine wpList_append_lies w hgd s x 24 ho base 2 i0 (.int .i64 0) 1 8 Tryd.underlying24 hi hz0 hz1 hz2 rfl (by decide) v ys.length _ hs hown' ⟨b, off, none⟩ xs.length cx (xs.map (Value.int .i64)) hx (by simp) ?_ ?_ hpos (by rw [show maxLen = 9223372036854775807 by decide]; omega) (by omega) hbase w.heap.size rfl ?_
  · intro j u hj
    rw [List.getElem?_map] at hj
    rcases hxj : xs[j]? with _ | y
    · rw [hxj] at hj; cases hj
    · rw [hxj] at hj; simp at hj; subst hj
      have hjl : j < xs.length := by rcases Nat.lt_or_ge j xs.length with h1 | h1; exact h1; rw [List.getElem?_eq_none h1] at hxj; cases hxj
      have hc1 := hcell j hjl
      rw [List.getD_eq_getElem?_getD, hxj, Option.getD_some] at hc1
      rw [Addr.add_lit]; exact hc1
  · intro u hu
    simp at hu
    obtain ⟨y, _, rfl⟩ := hu
    rfl
  · intro g cap w' h1 h2 _ _
    have e : ys.length + xs.length = (ys ++ xs).length := by rw [List.length_append]
    refine h g cap _ w' e ?_ h2
    show World.ownsRow _ _ _ _ _ (ys ++ xs).length ((ys ++ xs).map (Value.int .i64))
    rw [List.map_append, ← e]
    exact h1
theorem own_blk_ne {k : IntKind} {e base : Nat} {w : World} {v : Value} {ys : List Int} {b : Nat} {vs : Array Value} {t : TypeId} (h : Ow k e base w v ys) (hB : Blk w b vs t) (hne : t ≠ e) (he : v.ownBlock = some b) : False := by
  rcases h.2 with ⟨rfl, _⟩ | ⟨g, cap, cur, rfl, _, hg, _⟩
  · cases he
  · have e1 : g = b := Option.some.inj he
    subst e1
    unfold Blk at hB
    rw [hB] at hg
    cases hg
    exact hne rfl
/-- A list is kept where another one of another type is turned. -/
theorem ow_two {k k' : IntKind} {e e' base base' : Nat} {w w' : World} {v u : Value} {ys zs : List Int} (h : Ow k e base w v ys) (h2 : Ow k' e' base' w u zs) (hne : e ≠ e') (hg : w.grownBy w' v.ownBlock) : Ow k' e' base' w' u zs := by
  have h2' : w.ownsRow base' e' 1 u zs.length (zs.map (Value.int k')) := h2
  refine h2'.kept hg ?_
  rcases h.2 with ⟨rfl, _⟩ | ⟨g, cap, cur, rfl, _, hgo, _⟩
  · cases hu : u.ownBlock with
    | none => exact .inl rfl
    | some j => exact .inr (by simp [Value.ownBlock])
  · rcases h2.2 with ⟨rfl, _⟩ | ⟨g', cap', cur', rfl, _, hgo', _⟩
    · exact .inl rfl
    · refine .inr fun e1 => ?_
      have e2 : g' = g := by simpa [Value.ownBlock] using e1
      subst e2
      rw [hgo] at hgo'
      cases hgo'
      exact hne rfl
/-- What readValues has read. -/
structure RV (w : World) (g : Nat) (d0 : Dv) (k : Nat) (v u : Value) (W : World) : Prop where
  r : RB g (rD d0 k) v W
  o : OwI w.heap.size W u (rV d0 k)
  l : Below w.heap.size w W
  ok : ∀ j, j < k → zN (rD d0 j) ≤ 131070
set_option maxRecDepth 100000 in
set_option maxHeartbeats 4000000 in
theorem readValues_calls (v : Value) (xs : List Int) (n : Nat) (w : World) (h : Sl .u8 w v xs) (hx : BytesL xs) (hl : xs.length ≤ 600) (hn : n ≤ 64) :
    Calls Tryd.prog 38 #[v, .int .i64 (n : Int)] w fun e w' => (okB xs n = true → ∃ u, e = .returned u ∧ OwI w.heap.size w' u (rV (stD xs) n)) ∧ (okB xs n = false → ∃ pv, e = .panicked [{ v := .iface 9 pv, recovered := false }]) ∧ Below w.heap.size w w' := by
  have HSt := hid (implStart_calls v xs w h hx (by omega))
  obtain ⟨hd0, hxs0⟩ := dOk.start hl hx
  have est : stC xs = 0 := if_neg (by omega)
  rw [est] at HSt
  have Hs := hid h
  have Hx := hid hx
  have HD := hid (fun k (hk : k ≤ 64) => r_ok (n := k) hd0 hk)
  have Hok : Hid (∀ b, okB xs n = b ↔ (allB (rV (stD xs) n) && decide (vB (rV (stD xs) n) = xs)) = b) := fun b => Iff.rfl
  obtain ⟨a, cap, rfl, _⟩ := h
  clear est hd0 hxs0 hx
  generalize hd : stD xs = d0 at *
  clear hd
  have HV := hid value_calls
  have Hlen := hid hl
  clear hl
  go_enter Tryd.func38, Tryd.ntmps38
  go_wp2_with fail
  refine HSt.out.mono ?_
  rintro e w1 ⟨v1, rfl, ho1, hb1⟩
  have hsz1 := hb1.size
  have HK : Hid (RV w w1.heap.size d0 0 v1 (.slice none 0 0) (w1.alloc (.cells #[v1, .int .i64 d0.at', .int .i64 d0.rst, .int .i64 d0.rng] 93))) := ⟨⟨Blk.new _ _ _, (ho1.mono (Nat.zero_le _)).alloc _⟩, ⟨rfl, .inl ⟨rfl, rfl⟩⟩, bmore hb1 _, fun j hj => by omega⟩
  obtain ⟨a1, c1, rfl, _⟩ := ho1.sl
  clear ho1 hb1 HSt
  go_wp2_with fail
  have Hgw := hid hsz1
  clear hsz1
  generalize w1.heap.size = g at *
  go_loopw [6, 12] (fun l i wr => ∃ (k : Nat) (u v : Value), u = l ∧ i = .int .i64 (k : Int) ∧ k ≤ n ∧ Hid (RV w g d0 k v u wr)) (fun _ i _ => n - (intOf i).toNat)
  case atStart => exact ⟨0, _, _, rfl, rfl, Nat.zero_le _, HK.out⟩
  case round =>
    clear HK
    obtain ⟨k, u, v, hu, rfl, hk, hK⟩ := hrel
    subst hu
    by_cases hlt : k < n
    · have hdk := (HD.out k (by omega)).1
      have HVk := hid (HV.out g (rD d0 k) v (3 * k) wr hK.out.r hdk (by omega))
      have hsn := rV_snoc d0 k
      have HS1 := hid hsn.1
      have HS2 := hid hsn.2
      have hkI : (k : Int) < (n : Int) := by omega
      have hgr := hK.out.r.k.lt
      have hlr := hK.out.l.size
      have hgw : w.heap.size ≤ g := Hgw.out
      clear hdk hsn
      by_cases hz : zN (rD d0 k) ≤ 131070
      · have Hz := hid hz
        clear hz
        go_wp2_with fail
        refine HVk.out.mono ?_
        rintro e w2 ⟨hgood, _⟩
        obtain ⟨rfl, v2, hR2, hg2⟩ := hgood Hz.out
        have HR2 := hid hR2
        have HG2 := hid hg2
        clear hgood hR2 hg2 HVk
        have HO2 := hid (ow_apart hK.out.o hK.out.r.k (by decide) HG2.out)
        have HL2 := hid (hK.out.l.trans (below_of_grown HG2.out hlr (fun i e => by cases e; exact hgw)))
        have hs2 := HG2.out.size
        have Hyl : Hid ((rV d0 k).length = k) := rV_len _ _
        have HOk := hid hK.out.ok
        clear hK
        generalize hux : uz (zN (rD d0 k)) = x at *
        clear hux
        have HOa := hid (HO2.out.alloc (.cells #[.int .i64 x] 2))
        go_wp2_with (at_builtin; refine wpList_append_ints _ rfl _ _ rfl w.heap.size _ (rV d0 k) rfl HOa.out _ [x] rfl (sl_lit _ _ _ _ _ _ rfl rfl) (by simp) ?c1 ?c2 ?_)
        case c1 => rw [Hyl.out]; simp only [List.length_singleton]; omega
        case c2 => simp; omega
        intro g5 cap5 n5 w5 hn5 ho5 hg5
        have HK5 : Hid (RV w g d0 (k + 1) v2 (.slice (some ⟨g5, 0, none⟩) n5 cap5) w5) := by
          have hR3 := HR2.out.later (bmore (Below.refl _ _) (.cells #[.int .i64 x] 2))
          refine ⟨?_, ?_, (bmore HL2.out _).trans (below_of_grown hg5 (by simp; omega) (fun i e => (HOa.out.block i e).1)), fun j hj => ?_⟩
          · rw [HS2.out]
            refine ⟨hR3.k.kept hg5 (fun e => ?_), ?_⟩
            · exact own_blk_ne HOa.out hR3.k (by decide) e
            · exact ow_two HOa.out hR3.o (by decide) hg5
          · rw [HS1.out]; exact ho5
          · by_cases hjk : j < k
            · exact HOk.out j hjk
            · obtain rfl : j = k := by omega
              exact Hz.out
        clear hn5 ho5 hg5 HOa HO2 HL2 HR2 HG2
        go_wp2
        go_roundw
        case rel => exact ⟨k + 1, _, v2, rfl, by go_num, by omega, HK5.out⟩
        case measure => simp [intOf]; omega
      · have Hz := hid hz
        have Hno := hid (not_r hlt (show 131070 < zN (rD d0 k) by omega))
        clear hz
        go_wp2_with fail
        refine HVk.out.mono ?_
        rintro e w2 ⟨_, hbad⟩
        obtain ⟨⟨pv, rfl⟩, hg2⟩ := hbad (by have := Hz.out; omega)
        have HL2 := hid (hK.out.l.trans (below_of_grown hg2 hlr (fun i e => by cases e; exact hgw)))
        clear hbad hg2 HVk hK
        go_wp2
        refine ⟨rfl, fun h => ?_, fun _ => ⟨_, rfl⟩, HL2.out⟩
        exfalso
        have := (Hok.out true).1 h
        rw [Hno.out] at this
        cases this
    · obtain rfl : k = n := by omega
      have hall := all_r hK.out.ok
      obtain ⟨m1, m2⟩ := v_ok (vs := rV d0 k) (by rw [rV_len]; omega) hall
      have HEn := hid (implEncV_calls u (rV d0 k) wr hK.out.o.sl (by rw [rV_len]; omega))
      rw [m1, m2] at HEn
      have Hall := hid hall
      have HO := hid hK.out.o
      have HL := hid hK.out.l
      have hlr := hK.out.l.size
      clear m1 m2 hall hK
      generalize hvb : vB (rV d0 k) = ys at *
      have hyb : BytesL ys := by rw [← hvb]; exact encL_bd _
      have Hyb := hid hyb
      clear hvb hyb
      go_wp2_with fail
      refine HEn.out.mono ?_
      rintro e w2 ⟨u2, rfl, ho2, hb2⟩
      have HB2 := hid (bthen HL.out hb2)
      have HE := hid (bytesEqual_calls u2 (.slice a xs.length cap) ys xs w2 ho2.sl (Hs.out.later HB2.out) Hyb.out Hx.out)
      have HO2 := hid (HO.out.later hb2)
      clear ho2 hb2 HEn HO HL
      cases heq : decide (ys = xs)
      · rw [heq] at HE
        go_wp2_with fail
        refine HE.out.mono ?_
        rintro e w3 ⟨rfl, rfl⟩
        go_wp2
        refine ⟨rfl, fun h => ?_, fun _ => ⟨_, rfl⟩, HB2.out⟩
        exfalso
        have := (Hok.out true).1 h
        rw [Hall.out, heq] at this
        cases this
      · rw [heq] at HE
        go_wp2_with fail
        refine HE.out.mono ?_
        rintro e w3 ⟨rfl, rfl⟩
        go_wp2
        go_ret
        refine ⟨fun _ => ⟨_, rfl, HO2.out⟩, fun h => ?_, HB2.out⟩
        exfalso
        have := (Hok.out false).1 h
        rw [Hall.out, heq] at this
        cases this
end Go.Proofs.YthecfboplfmdmaaDoor.RdL
