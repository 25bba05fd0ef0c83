/- The walk through FnValues. -/
import Derived.Test.YthecfboplfmdmaaDoorDrwX
import Derived.Test.YthecfboplfmdmaaDoorRdT
import Derived.Deep.RegionHeld3
import Derived.Deep.CutBlock
import Derived.Deep.DeepCutAuto
import Derived.RegionTactic
namespace Go.Proofs.YthecfboplfmdmaaDoor.VlsW
open Go.ChangeShapes Go.WideShapes Go.ChangeAt Go.RowKit Go.Proofs.YthecfboplfmdmaaDoor.Num Go.Proofs.YthecfboplfmdmaaDoor.Sli Go.Proofs.YthecfboplfmdmaaDoor.App Go.Proofs.YthecfboplfmdmaaDoor.CrcM Go.Proofs.YthecfboplfmdmaaDoor.Str Go.Proofs.YthecfboplfmdmaaDoor.Blk Go.Proofs.YthecfboplfmdmaaDoor.RangeM Go.Proofs.YthecfboplfmdmaaDoor.TakT Go.Proofs.YthecfboplfmdmaaDoor.ValZ Go.Proofs.YthecfboplfmdmaaDoor.ValM Go.Proofs.YthecfboplfmdmaaDoor.EncV Go.Proofs.YthecfboplfmdmaaDoor.RdL Go.Proofs.YthecfboplfmdmaaDoor.RdD Go.Proofs.YthecfboplfmdmaaDoor.RdT Go.Proofs.YthecfboplfmdmaaDoor.DrwW Go.Proofs.YthecfboplfmdmaaDoor.DrwX

theorem fieldB0 (c v : Value) (w : World) : (Instr.field 27 (.agg #[c, v]) 0).run Tryd.prog w = .ok c w := by kernel_rfl
theorem fieldB1 (c v : Value) (w : World) : (Instr.field 27 (.agg #[c, v]) 1).run Tryd.prog w = .ok v w := by kernel_rfl
theorem fieldI0 (c v : Value) (w : World) : (Instr.field 32 (.agg #[c, v]) 0).run Tryd.prog w = .ok c w := by kernel_rfl
attribute [local go_sem] fieldB0 fieldB1 fieldI0
theorem lwBytes_calls (v1 v2 : Value) (xs ys : List Int) (w : World) (h1 : Sl .u8 w v1 xs) (h2 : Sl .u8 w v2 ys) (hx : BytesL xs) (hy : BytesL ys) :
    Calls Tryd.prog 13 #[v1, v2] w fun e w' => e = .returned (.bool (decide (xs = ys))) ∧ w' = w := by
  have r1 := run_str h1
  have r2 := run_str h2
  have H := hid (str_eq xs ys hx hy)
  obtain ⟨a1, cap1, rfl, _⟩ := h1
  obtain ⟨a2, cap2, rfl, _⟩ := h2
  go_enter Tryd.func13, Tryd.ntmps13
  go_wp2
  go_ret
  exact ⟨ret_bool H.out, rfl⟩
theorem lwNums_some (b1 off1 cap1 b2 off2 cap2 : Nat) (xs : List Int) (w : World) (hlen : xs.length ≤ 1048576) (hb1 : b1 < w.heap.size) (hb2 : b2 < w.heap.size)
    (h1 : ∀ i, i < xs.length → w.cell? ⟨b1, off1 + i, none⟩ = some (.int .i64 (xs.getD i 0))) (h2 : ∀ i, i < xs.length → w.cell? ⟨b2, off2 + i, none⟩ = some (.int .i64 (xs.getD i 0))) :
    Calls Tryd.prog 14 #[.slice (some ⟨b1, off1, none⟩) xs.length cap1, .slice (some ⟨b2, off2, none⟩) xs.length cap2] w fun e w' => e = .returned (.bool true) ∧ Below w.heap.size w w' := by
  go_enter Tryd.func14, Tryd.ntmps14
  go_wp2
  go_loopw [5] (fun i wr => ∃ k : Nat, k ≤ xs.length ∧ i = .int .i64 k ∧ Below w.heap.size w wr) (fun i _ => xs.length - (intOf i).toNat)
  case atStart => exact ⟨0, Nat.zero_le _, rfl, Below.refl _ _⟩
  case round =>
    obtain ⟨k, hk, rfl, hbel⟩ := hrel
    by_cases hlt : k < xs.length
    · have c1 := (hbel.cell (p := ⟨b1, off1 + k, none⟩) hb1).trans (h1 k hlt)
      have c2 := (hbel.cell (p := ⟨b2, off2 + k, none⟩) hb2).trans (h2 k hlt)
      generalize xs.getD k 0 = x at *
      have hbel' := hbel.drew
      clear h1 h2 hbel
      go_wp2
      go_region
      all_goals go_wp2
      all_goals go_roundw
      case rel => exact ⟨k + 1, by omega, by go_num, hbel'⟩
      case measure => simp [intOf]; omega
    · go_wp2
      go_ret
      exact ⟨rfl, hbel⟩
theorem lwNums_none (a1 a2 : Option Addr) (cap1 cap2 : Nat) (w : World) :
    Calls Tryd.prog 14 #[.slice a1 0 cap1, .slice a2 0 cap2] w fun e w' => e = .returned (.bool true) ∧ Below w.heap.size w w' := by
  go_enter Tryd.func14, Tryd.ntmps14
  go_wp2
  go_loop [5] (fun i => i = .int .i64 0) (fun _ => 0)
  case atStart => rfl
  case round =>
    obtain rfl := hrel
    go_wp2
    go_ret
    exact ⟨rfl, Below.refl _ _⟩
theorem lwNums_calls (v1 v2 : Value) (xs : List Int) (w : World) (h1 : Sl .i64 w v1 xs) (h2 : Sl .i64 w v2 xs) (hlen : xs.length ≤ 1048576) :
    Calls Tryd.prog 14 #[v1, v2] w fun e w' => e = .returned (.bool true) ∧ Below w.heap.size w w' := by
  obtain ⟨a1, cap1, rfl, hc1⟩ := h1
  obtain ⟨a2, cap2, rfl, hc2⟩ := h2
  by_cases hne : xs = []
  · subst hne
    exact lwNums_none a1 a2 cap1 cap2 w
  · obtain ⟨b1, off1, rfl, hlt1, hcell1⟩ := hc1 hne
    obtain ⟨b2, off2, rfl, hlt2, hcell2⟩ := hc2 hne
    exact lwNums_some b1 off1 cap1 b2 off2 cap2 xs w hlen hlt1 hlt2 hcell1 hcell2
/-- What is decoded tells the data again. -/
theorem de_tells {ds : List Int} {n : Int} (h : deC ds n = 0) : vC (deL ds n) = 0 ∧ vL (deL ds n) = ds ∧ ((deL ds n).length : Int) = n ∧ (deL ds n).length ≤ 64 := by
  have hm : ¬ 600 < ds.length := fun h1 => by rw [(de_many h1).1] at h; cases h
  have hin : inB 0 64 n = true := by
    cases hin : inB 0 64 n
    · rw [(de_range hm hin).1] at h; cases h
    · rfl
  have hok : okB ds n.toNat = true := by
    cases hok : okB ds n.toNat
    · rw [(de_bad hm hin hok).1] at h; cases h
    · rfl
  obtain ⟨b1, b2⟩ := of_inB hin
  rw [(de_ok hm hin hok).2]
  unfold okB at hok
  rw [Bool.and_eq_true, decide_eq_true_eq] at hok
  have hl := rV_len (stD ds) n.toNat
  obtain ⟨m1, m2⟩ := v_ok (vs := rV (stD ds) n.toNat) (by omega) hok.1
  exact ⟨m1, m2.trans hok.2, by omega, by omega⟩
/-- What is encoded is read back. -/
theorem en_back {vs : List Int} (h : vC vs = 0) : deC (vL vs) (vs.length : Int) = 0 ∧ deL (vL vs) (vs.length : Int) = vs ∧ (vL vs).length ≤ 3 * vs.length + 3 ∧ BytesL (vL vs) ∧ vs.length ≤ 64 := by
  have hm : ¬ 64 < vs.length := fun h1 => by rw [(v_many h1).1] at h; cases h
  have hall : allB vs = true := by
    cases hall : allB vs
    · rw [(v_bad hm hall).1] at h; cases h
    · rfl
  have hav := (allB_iff vs).1 hall
  rw [(v_ok hm hall).2]
  obtain ⟨r1, r2⟩ := read_back hav (by omega)
  have hok : okB (vB vs) (vs.length : Int).toNat = true := by
    rw [Int.toNat_natCast]
    unfold okB
    rw [r1, hall]
    simp
  obtain ⟨d1, d2⟩ := de_ok (xs := vB vs) (n := (vs.length : Int)) (by omega) (inB_yes (by omega) (by omega)) hok
  rw [Int.toNat_natCast, r1] at d2
  exact ⟨d1, d2, vB_len hav, encL_bd _, by omega⟩
/-- What FnValues keeps. -/
structure KV (w : World) (E D : Nat) (vl u vda ud : Value) (vs es ds dl : List Int) (ec dc : Int) (W : World) : Prop where
  l : Sl .i64 W vl vs
  e : Blk W E #[.int .i64 ec, u] 27
  q : Sl .u8 W u es
  a : Sl .u8 W vda ds
  d : Blk W D #[.int .i64 dc, ud] 32
  p : Sl .i64 W ud dl
  b : Below w.heap.size w W
variable {w W W' : World} {E D : Nat} {vl u vda ud : Value} {vs es ds dl : List Int} {ec dc : Int}
theorem KV.later (h : KV w E D vl u vda ud vs es ds dl ec dc W) (hb : Below W.heap.size W W') : KV w E D vl u vda ud vs es ds dl ec dc W' :=
  ⟨h.l.later hb, h.e.later hb, h.q.later hb, h.a.later hb, h.d.later hb, h.p.later hb, bthen h.b hb⟩
theorem KV.drew (h : KV w E D vl u vda ud vs es ds dl ec dc W) : KV w E D vl u vda ud vs es ds dl ec dc W.drew := ⟨h.l, h.e, h.q, h.a, h.d, h.p, h.b.drew⟩
set_option maxRecDepth 100000 in
set_option maxHeartbeats 8000000 in
theorem fnValues_calls (a : Option Addr) (cap : Nat) (bs : List Int) (w : World) (hsl : Sl .u8 w (.slice a bs.length cap) bs) (hbd : ∀ x ∈ bs, 0 ≤ x ∧ x ≤ 255) :
    Calls Tryd.prog 3 #[.slice a bs.length cap] w fun e w' => e = .returned (.bool true) ∧ Below w.heap.size w w' := by
  by_cases hbig : 1048576 < bs.length
  · have hb' : (1048576 : Int) < bs.length := by omega
    clear hsl hbd
    go_enter Tryd.func3, Tryd.ntmps3
    go_wp2
    go_ret
    exact ⟨rfl, Below.refl _ _⟩
  · have hb' : (bs.length : Int) ≤ 1048576 := by omega
    have H1 := hid (drawEncV_calls a cap bs w hsl hbd (by omega))
    have H2 := hid (fun W (h : Below w.heap.size w W) => drawDecV_calls a cap bs W (hsl.later h) hbd (by omega))
    clear hsl hbd
    go_enter Tryd.func3, Tryd.ntmps3
    go_wp2_with (first | (go_at_call 6; go_in) | fail)
    refine H1.out.mono ?_
    rintro e w1 ⟨gl, cl, vs, rfl, hvl, hs1, hb1⟩
    have HS1 := hid hs1
    have HB1 := hid hb1
    have HIE := hid implEncV_calls
    have HID := hid implDecV_calls
    clear hs1 hb1 H1
    go_wp2_with fail
    refine (HIE.out _ vs _ HS1.out (by omega)).mono ?_
    rintro e w2 ⟨u, rfl, ho2, hb2⟩
    have HE2 := hid (Blk.new w2 #[.int .i64 (vC vs), u] 27)
    have HQ2 := hid (ho2.sl.later (bmore (Below.refl _ _) (.cells #[.int .i64 (vC vs), u] 27)))
    have HL2 := hid ((HS1.out.later hb2).later (bmore (Below.refl _ _) (.cells #[.int .i64 (vC vs), u] 27)))
    have HB2 := hid (bmore (bthen HB1.out hb2) (.cells #[.int .i64 (vC vs), u] 27))
    obtain ⟨au, cu, rfl, _⟩ := ho2.sl
    clear ho2 hb2 HS1 HB1
    go_wp2_with fail
    refine (H2.out _ HB2.out).mono ?_
    rintro e w3 ⟨gd, cd, ds, n, rfl, hdl, hdb, hs3, hb3⟩
    have HA3 := hid hs3
    have HE3 := hid (HE2.out.later hb3)
    have HQ3 := hid (HQ2.out.later hb3)
    have HL3 := hid (HL2.out.later hb3)
    have HB3 := hid (bthen HB2.out hb3)
    have Hdb := hid hdb
    clear hs3 hb3 HE2 HQ2 HL2 HB2 H2 hdb
    go_wp2_with fail
    generalize w2.heap.size = E at *
    refine (HID.out _ ds n _ HA3.out Hdb.out (by omega)).mono ?_
    rintro e w4 ⟨ud, rfl, ho4, hb4⟩
    have HK : Hid (KV w E w4.heap.size (.slice (some ⟨gl, 0, none⟩) vs.length cl) (.slice au (vL vs).length cu) (.slice (some ⟨gd, 0, none⟩) ds.length cd) ud vs (vL vs) ds (deL ds n) (vC vs) (deC ds n) (w4.alloc (.cells #[.int .i64 (deC ds n), ud] 32))) := by
      have ha := bmore (Below.refl w4.heap.size w4) (.cells #[.int .i64 (deC ds n), ud] 32)
      exact ⟨(HL3.out.later hb4).later ha, (HE3.out.later hb4).later ha, (HQ3.out.later hb4).later ha, (HA3.out.later hb4).later ha, Blk.new _ _ _, ho4.sl.later ha, bthen (bthen HB3.out hb4) ha⟩
    obtain ⟨aud, cud, rfl, _⟩ := ho4.sl
    clear ho4 hb4 HA3 HE3 HQ3 HL3 HB3
    have HSE := hid (fun v W (h : Sl .i64 W v vs) => specEncV_calls v vs W h (by omega))
    have HSD := hid (fun v W (h : Sl .u8 W v ds) => specDecV_calls v ds n W h Hdb.out (by omega))
    have Hde : Hid (deC ds n = 0 → vC (deL ds n) = 0 ∧ vL (deL ds n) = ds ∧ ((deL ds n).length : Int) = n ∧ (deL ds n).length ≤ 64) := de_tells
    have Hen : Hid (vC vs = 0 → deC (vL vs) (vs.length : Int) = 0 ∧ deL (vL vs) (vs.length : Int) = vs ∧ (vL vs).length ≤ 3 * vs.length + 3 ∧ BytesL (vL vs) ∧ vs.length ≤ 64) := en_back
    have hKd := HK.out.drew
    go_wp2_with fail
    generalize w4.alloc (.cells #[.int .i64 (deC ds n), .slice aud (deL ds n).length cud] 32) = w5 at *
    generalize w4.heap.size = D at *
    generalize vC vs = ec at *
    generalize vL vs = es at *
    generalize deC ds n = dc at *
    generalize deL ds n = dl at *
    refine wp_region_noPanic ?_
    refine wp_region_held_drew (S := fun W => KV w E D (.slice (some ⟨gl, 0, none⟩) vs.length cl) (.slice au es.length cu) (.slice (some ⟨gd, 0, none⟩) ds.length cd) (.slice aud dl.length cud) vs es ds dl ec dc W) (by kernel_rfl) ?_ (fun hHeld => ?_)
    · assumption
    (refine wpAnyH_take (i := 0) (v := ?_) rfl (by kernel_rfl) (by kernel_rfl) (by kernel_rfl) (fun _ _ _ h => h) (Or.inl ⟨by rfl, ?_⟩) hHeld ?_; rotate_left; (intro w hSw; (obtain ⟨e0, e1, _⟩ := hSw.e.two; obtain ⟨d0, d1, _⟩ := hSw.d.two; clear hSw); (go_simp <;> with_reducible rfl)); simp only [List.getElem_toArray, List.getElem_cons_zero, Act.put, List.setIfInBounds_toArray, List.set_cons_zero, List.set_cons_succ])
    (refine wpAnyH_take (i := 1) (v := ?_) rfl (by kernel_rfl) (by kernel_rfl) (by kernel_rfl) (fun _ _ _ h => h) (Or.inl ⟨by rfl, ?_⟩) hHeld ?_; rotate_left; (intro w hSw; (obtain ⟨e0, e1, _⟩ := hSw.e.two; obtain ⟨d0, d1, _⟩ := hSw.d.two; clear hSw); (go_simp <;> with_reducible rfl)); simp only [List.getElem_toArray, List.getElem_cons_zero, List.getElem_cons_succ, Act.put, List.setIfInBounds_toArray, List.set_cons_zero, List.set_cons_succ])
    (refine wpAnyH_take (i := 2) (v := ?_) rfl (by kernel_rfl) (by kernel_rfl) (by kernel_rfl) (fun _ _ _ h => h) (Or.inl ⟨by rfl, ?_⟩) hHeld ?_; rotate_left; (intro w hSw; (obtain ⟨e0, e1, _⟩ := hSw.e.two; obtain ⟨d0, d1, _⟩ := hSw.d.two; clear hSw); (go_simp <;> with_reducible rfl)); simp only [List.getElem_toArray, List.getElem_cons_zero, List.getElem_cons_succ, Act.put, List.setIfInBounds_toArray, List.set_cons_zero, List.set_cons_succ])
    (refine wpAnyH_ready (rs := [3]) (by kernel_rfl) (by simp) ?_; refine AllReadyH.cons rfl (fun K hK => ?_) AllReadyH.nil; go_simp; (refine (HSE.out _ _ hHeld.l).mono ?_; rintro e w6 ⟨vS, rfl, hoS, hbS⟩; have hK1 := hHeld.later hbS); refine hK.out _ _ ?_ (fun hHeld => ?_); (assumption); clear hK K; try dsimp only)
    (refine wpAnyH_take (i := 4) (v := ?_) rfl (by kernel_rfl) (by kernel_rfl) (by kernel_rfl) (fun _ _ _ h => h) (Or.inl ⟨by rfl, ?_⟩) hHeld ?_; rotate_left; (intro w hSw; (obtain ⟨e0, e1, _⟩ := hSw.e.two; obtain ⟨d0, d1, _⟩ := hSw.d.two; clear hSw); (go_simp <;> with_reducible rfl)); simp only [List.getElem_toArray, List.getElem_cons_zero, List.getElem_cons_succ, Act.put, List.setIfInBounds_toArray, List.set_cons_zero, List.set_cons_succ])
    (refine wpAnyH_take (i := 5) (v := ?_) rfl (by kernel_rfl) (by kernel_rfl) (by kernel_rfl) (fun _ _ _ h => h) (Or.inl ⟨by rfl, ?_⟩) hHeld ?_; rotate_left; (intro w hSw; (obtain ⟨e0, e1, _⟩ := hSw.e.two; obtain ⟨d0, d1, _⟩ := hSw.d.two; clear hSw); (go_simp <;> with_reducible rfl)); simp only [List.getElem_toArray, List.getElem_cons_zero, List.getElem_cons_succ, Act.put, List.setIfInBounds_toArray, List.set_cons_zero, List.set_cons_succ])
    (refine wpAnyH_take (i := 6) (v := ?_) rfl (by kernel_rfl) (by kernel_rfl) (by kernel_rfl) (fun _ _ _ h => h) (Or.inl ⟨by rfl, ?_⟩) hHeld ?_; rotate_left; (intro w hSw; (obtain ⟨e0, e1, _⟩ := hSw.e.two; obtain ⟨d0, d1, _⟩ := hSw.d.two; clear hSw); (go_simp <;> with_reducible rfl)); simp only [List.getElem_toArray, List.getElem_cons_zero, List.getElem_cons_succ, Act.put, List.setIfInBounds_toArray, List.set_cons_zero, List.set_cons_succ])
    first | (refine wpAnyH_take (i := 7) (v := ?_) rfl (by kernel_rfl) (by kernel_rfl) (by kernel_rfl) (fun _ _ _ h => h) (Or.inl ⟨by rfl, ?_⟩) hHeld ?_; rotate_left; (intro w hSw; (obtain ⟨e0, e1, _⟩ := hSw.e.two; obtain ⟨d0, d1, _⟩ := hSw.d.two; clear hSw); (go_simp <;> with_reducible rfl)); simp only [List.getElem_toArray, List.getElem_cons_zero, List.getElem_cons_succ, Act.put, List.setIfInBounds_toArray, List.set_cons_zero, List.set_cons_succ]) | (refine wpAnyH_take (i := 7) (v := undef) rfl (by kernel_rfl) (by kernel_rfl) (by kernel_rfl) (fun _ _ _ h => h) (Or.inr ⟨by rfl, rfl⟩) hHeld ?_; simp only [List.getElem_toArray, List.getElem_cons_zero, List.getElem_cons_succ, Act.put, List.setIfInBounds_toArray, List.set_cons_zero, List.set_cons_succ])
    first | (refine wpAnyH_take (i := 8) (v := ?_) rfl (by kernel_rfl) (by kernel_rfl) (by kernel_rfl) (fun _ _ _ h => h) (Or.inl ⟨by rfl, ?_⟩) hHeld ?_; rotate_left; (intro w hSw; (obtain ⟨e0, e1, _⟩ := hSw.e.two; obtain ⟨d0, d1, _⟩ := hSw.d.two; clear hSw); (go_simp <;> with_reducible rfl)); simp only [List.getElem_toArray, List.getElem_cons_zero, List.getElem_cons_succ, Act.put, List.setIfInBounds_toArray, List.set_cons_zero, List.set_cons_succ]) | (refine wpAnyH_take (i := 8) (v := undef) rfl (by kernel_rfl) (by kernel_rfl) (by kernel_rfl) (fun _ _ _ h => h) (Or.inr ⟨by rfl, rfl⟩) hHeld ?_; simp only [List.getElem_toArray, List.getElem_cons_zero, List.getElem_cons_succ, Act.put, List.setIfInBounds_toArray, List.set_cons_zero, List.set_cons_succ])
    first | (refine wpAnyH_take (i := 9) (v := ?_) rfl (by kernel_rfl) (by kernel_rfl) (by kernel_rfl) (fun _ _ _ h => h) (Or.inl ⟨by rfl, ?_⟩) hHeld ?_; rotate_left; (intro w hSw; (obtain ⟨e0, e1, _⟩ := hSw.e.two; obtain ⟨d0, d1, _⟩ := hSw.d.two; clear hSw); (go_simp <;> with_reducible rfl)); simp only [List.getElem_toArray, List.getElem_cons_zero, List.getElem_cons_succ, Act.put, List.setIfInBounds_toArray, List.set_cons_zero, List.set_cons_succ]) | (refine wpAnyH_take (i := 9) (v := undef) rfl (by kernel_rfl) (by kernel_rfl) (by kernel_rfl) (fun _ _ _ h => h) (Or.inr ⟨by rfl, rfl⟩) hHeld ?_; simp only [List.getElem_toArray, List.getElem_cons_zero, List.getElem_cons_succ, Act.put, List.setIfInBounds_toArray, List.set_cons_zero, List.set_cons_succ])
    first | (refine wpAnyH_take (i := 10) (v := ?_) rfl (by kernel_rfl) (by kernel_rfl) (by kernel_rfl) (fun _ _ _ h => h) (Or.inl ⟨by rfl, ?_⟩) hHeld ?_; rotate_left; (intro w hSw; (obtain ⟨e0, e1, _⟩ := hSw.e.two; obtain ⟨d0, d1, _⟩ := hSw.d.two; clear hSw); (go_simp <;> with_reducible rfl)); simp only [List.getElem_toArray, List.getElem_cons_zero, List.getElem_cons_succ, Act.put, List.setIfInBounds_toArray, List.set_cons_zero, List.set_cons_succ]) | (refine wpAnyH_take (i := 10) (v := undef) rfl (by kernel_rfl) (by kernel_rfl) (by kernel_rfl) (fun _ _ _ h => h) (Or.inr ⟨by rfl, rfl⟩) hHeld ?_; simp only [List.getElem_toArray, List.getElem_cons_zero, List.getElem_cons_succ, Act.put, List.setIfInBounds_toArray, List.set_cons_zero, List.set_cons_succ])
    first | (refine wpAnyH_take (i := 11) (v := undef) rfl (by kernel_rfl) (by kernel_rfl) (by kernel_rfl) (fun _ _ _ h => h) (Or.inr ⟨by rfl, rfl⟩) hHeld ?_; simp only [List.getElem_toArray, List.getElem_cons_zero, List.getElem_cons_succ, Act.put, List.setIfInBounds_toArray, List.set_cons_zero, List.set_cons_succ]) | (refine wpAnyH_ready (rs := [11]) (by kernel_rfl) (by simp) ?_; refine AllReadyH.cons rfl (fun K hK => ?_) AllReadyH.nil; go_simp; (refine (HSD.out _ _ hHeld.a).mono ?_; rintro e w7 ⟨vT, rfl, hoT, hbT⟩; have hK2 := hHeld.later hbT); refine hK.out _ _ ?_ (fun hHeld => ?_); (assumption); clear hK K; try dsimp only)
    first | (refine wpAnyH_take (i := 12) (v := ?_) rfl (by kernel_rfl) (by kernel_rfl) (by kernel_rfl) (fun _ _ _ h => h) (Or.inl ⟨by rfl, ?_⟩) hHeld ?_; rotate_left; (intro w hSw; (obtain ⟨e0, e1, _⟩ := hSw.e.two; obtain ⟨d0, d1, _⟩ := hSw.d.two; clear hSw); (go_simp <;> with_reducible rfl)); simp only [List.getElem_toArray, List.getElem_cons_zero, List.getElem_cons_succ, Act.put, List.setIfInBounds_toArray, List.set_cons_zero, List.set_cons_succ]) | (refine wpAnyH_take (i := 12) (v := undef) rfl (by kernel_rfl) (by kernel_rfl) (by kernel_rfl) (fun _ _ _ h => h) (Or.inr ⟨by rfl, rfl⟩) hHeld ?_; simp only [List.getElem_toArray, List.getElem_cons_zero, List.getElem_cons_succ, Act.put, List.setIfInBounds_toArray, List.set_cons_zero, List.set_cons_succ])
    first | (refine wpAnyH_take (i := 13) (v := ?_) rfl (by kernel_rfl) (by kernel_rfl) (by kernel_rfl) (fun _ _ _ h => h) (Or.inl ⟨by rfl, ?_⟩) hHeld ?_; rotate_left; (intro w hSw; (obtain ⟨e0, e1, _⟩ := hSw.e.two; obtain ⟨d0, d1, _⟩ := hSw.d.two; clear hSw); (go_simp <;> with_reducible rfl)); simp only [List.getElem_toArray, List.getElem_cons_zero, List.getElem_cons_succ, Act.put, List.setIfInBounds_toArray, List.set_cons_zero, List.set_cons_succ]) | (refine wpAnyH_take (i := 13) (v := undef) rfl (by kernel_rfl) (by kernel_rfl) (by kernel_rfl) (fun _ _ _ h => h) (Or.inr ⟨by rfl, rfl⟩) hHeld ?_; simp only [List.getElem_toArray, List.getElem_cons_zero, List.getElem_cons_succ, Act.put, List.setIfInBounds_toArray, List.set_cons_zero, List.set_cons_succ])
    (refine wpAnyH_take (i := 14) (v := ?_) rfl (by kernel_rfl) (by kernel_rfl) (by kernel_rfl) (fun _ _ _ h => h) (Or.inl ⟨by rfl, ?_⟩) hHeld ?_; rotate_left; (intro w hSw; (obtain ⟨e0, e1, _⟩ := hSw.e.two; obtain ⟨d0, d1, _⟩ := hSw.d.two; clear hSw); (go_simp <;> with_reducible rfl)); simp only [List.getElem_toArray, List.getElem_cons_zero, List.getElem_cons_succ, Act.put, List.setIfInBounds_toArray, List.set_cons_zero, List.set_cons_succ])
    refine wpAnyH_done (by kernel_rfl) ?_ _
    refine NoPanic.normal ?_
    have HK2 := hid hHeld
    clear hHeld hK1 hK2 hoS hbS hoT hbT HK hKd HSE HSD
    go_upto_region 9 with fail
    go_cut [56] from 38 to 56 (fun t wc => t = .bool false ∧ Hid (KV w E D (.slice (some ⟨gl, 0, none⟩) vs.length cl) (.slice au es.length cu) (.slice (some ⟨gd, 0, none⟩) ds.length cd) (.slice aud dl.length cud) vs es ds dl ec dc wc))
    case first =>
      obtain ⟨d0, d1, _⟩ := HK2.out.d.two
      by_cases hd : dc = 0
      · obtain ⟨q1, q2, q3, q4⟩ := Hde.out hd
        subst hd
        have HEd := hid (HIE.out _ dl _ HK2.out.p (by omega))
        rw [q1, q2] at HEd
        clear Hde Hen q1 q2
        go_wp2_with fail
        refine HEd.out.mono ?_
        rintro e w8 ⟨u8, rfl, ho8, hb8⟩
        have HK8 := hid (HK2.out.later hb8)
        have HLw := hid (lwBytes_calls u8 _ ds ds w8 ho8.sl HK8.out.a Hdb.out Hdb.out)
        rw [decide_eq_true (rfl : ds = ds)] at HLw
        obtain ⟨d0, d1, _⟩ := HK8.out.d.two
        clear ho8 hb8 HEd HK2
        go_wp2_with fail
        refine HLw.out.mono ?_
        rintro e w9 ⟨rfl, rfl⟩
        have Hq := hid q3
        have hnn : ((dl.length : Int) == n) = true := by rw [q3]; exact beq_self_eq_true n
        have hnn2 : ((dl.length : Int) != n) = false := by rw [q3]; simp
        subst q3
        go_wp2_with fail
        go_meet
        case rel => exact ⟨rfl, HK8.out⟩
      · have hd' : (dc == 0) = false := beq_eq_false_iff_ne.2 hd
        clear Hde Hen hd
        go_wp2_with fail
        go_meet
        case rel => exact ⟨rfl, HK2.out⟩
    case rest =>
      obtain ⟨rfl, hKc⟩ := hcut
      clear HK2 Hde
      obtain ⟨e0, e1, _⟩ := hKc.out.e.two
      by_cases he : ec = 0
      · obtain ⟨q1, q2, q3, q4, q5⟩ := Hen.out he
        subst he
        have HDb := hid (HID.out _ es (vs.length : Int) _ hKc.out.q q4 (by omega))
        rw [q1, q2] at HDb
        clear Hen q1 q2
        have hle : decide ((es.length : Int) ≤ 3 * (vs.length : Int) + 3) = true := decide_eq_true (by omega)
        have hle2 : (es.length : Int) ≤ 3 * (vs.length : Int) + 3 := by omega
        have hvI : (vs.length : Int) ≤ 64 := by omega
        go_wp2_with fail
        refine HDb.out.mono ?_
        rintro e w10 ⟨ub, rfl, hob, hbb⟩
        have HKb := hid ((hKc.out.later hbb).later (bmore (Below.refl _ _) (.cells #[.int .i64 0, ub] 32)))
        have HUb := hid (hob.sl.later (bmore (Below.refl _ _) (.cells #[.int .i64 0, ub] 32)))
        obtain ⟨e0, e1, _⟩ := (hKc.out.later hbb).e.two
        have hEl := (hKc.out.later hbb).e.lt
        obtain ⟨aub, cub, rfl, _⟩ := hob.sl
        clear hob hbb HDb hKc
        have HLn := hid (lwNums_calls _ _ vs _ HUb.out HKb.out.l (by omega))
        go_wp2_with fail
        refine HLn.out.mono ?_
        rintro e w11 ⟨rfl, hb11⟩
        have HK11 := hid (HKb.out.later hb11)
        obtain ⟨e0, e1, _⟩ := HK11.out.e.two
        have HL := hid HK11.out.b
        clear hb11 HLn HKb HUb HK11
        go_wp2
        go_ret
        refine ⟨?_, HL.out⟩
        first | rfl | (simp; omega) | (simp [hle2])
      · have he' : (ec == 0) = false := beq_eq_false_iff_ne.2 he
        have HL := hid hKc.out.b
        clear hKc Hen he
        go_wp2
        go_ret
        exact ⟨rfl, HL.out⟩
end Go.Proofs.YthecfboplfmdmaaDoor.VlsW
