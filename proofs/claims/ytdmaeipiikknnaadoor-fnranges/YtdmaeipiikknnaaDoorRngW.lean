/- The walk through FnRanges. -/
import Derived.Test.YtdmaeipiikknnaaDoorDrwL
import Derived.Test.YtdmaeipiikknnaaDoorLnkM
import Derived.Test.YtdmaeipiikknnaaDoorEncS
import Derived.Test.YtdmaeipiikknnaaDoorTakI
import Derived.Test.YtdmaeipiikknnaaDoorStaI
import Derived.Deep.DeepCutAuto
namespace Go.Proofs.YtdmaeipiikknnaaDoor.RngW
open Go.ChangeShapes Go.WideShapes Go.ChangeAt Go.RowKit Go.Proofs.YtdmaeipiikknnaaDoor.Num Go.Proofs.YtdmaeipiikknnaaDoor.Sli Go.Proofs.YtdmaeipiikknnaaDoor.App Go.Proofs.YtdmaeipiikknnaaDoor.Byt Go.Proofs.YtdmaeipiikknnaaDoor.CrcM Go.Proofs.YtdmaeipiikknnaaDoor.Str Go.Proofs.YtdmaeipiikknnaaDoor.Div Go.Proofs.YtdmaeipiikknnaaDoor.Dec Go.Proofs.YtdmaeipiikknnaaDoor.Blk Go.Proofs.YtdmaeipiikknnaaDoor.Nxt Go.Proofs.YtdmaeipiikknnaaDoor.Byte Go.Proofs.YtdmaeipiikknnaaDoor.TakS Go.Proofs.YtdmaeipiikknnaaDoor.TakT Go.Proofs.YtdmaeipiikknnaaDoor.StaI Go.Proofs.YtdmaeipiikknnaaDoor.TakI Go.Proofs.YtdmaeipiikknnaaDoor.Src Go.Proofs.YtdmaeipiikknnaaDoor.DrwS Go.Proofs.YtdmaeipiikknnaaDoor.RangeM Go.Proofs.YtdmaeipiikknnaaDoor.SlS Go.Proofs.YtdmaeipiikknnaaDoor.Enc Go.Proofs.YtdmaeipiikknnaaDoor.EncS Go.Proofs.YtdmaeipiikknnaaDoor.ExL Go.Proofs.YtdmaeipiikknnaaDoor.DrwL Go.Proofs.YtdmaeipiikknnaaDoor.LnkM

theorem fieldB0 (c v : Value) (w : World) : (Instr.field 27 (.agg #[c, v]) 0).run Tryd.prog w = .ok c w := by kernel_rfl
theorem fieldI0 (c v : Value) (w : World) : (Instr.field 30 (.agg #[c, v]) 0).run Tryd.prog w = .ok c w := by kernel_rfl
theorem fieldI1 (c v : Value) (w : World) : (Instr.field 30 (.agg #[c, v]) 1).run Tryd.prog w = .ok v w := by kernel_rfl
attribute [local go_sem] fieldB0 fieldI0 fieldI1

/-- The list, and the program's answer. -/
structure KR (w : World) (B : Nat) (vl : Value) (ls : List Sl3) (c : Int) (vE : Value) (es : List Int) (W : World) : Prop where
  e : Blk W B #[.int .i64 c, vE] 27
  s : SlS W vl ls
  q : Sl .u8 W vE es
  l : Below w.heap.size w W
theorem KR.later {w : World} {B : Nat} {vl : Value} {ls : List Sl3} {c : Int} {vE : Value} {es : List Int} {W W' : World} (h : KR w B vl ls c vE es W) (hb : Below W.heap.size W W') : KR w B vl ls c vE es W' :=
  ⟨h.e.later hb, h.s.later hb, h.q.later hb, bthen h.l hb⟩
theorem KR.drew {w : World} {B : Nat} {vl : Value} {ls : List Sl3} {c : Int} {vE : Value} {es : List Int} {W : World} (h : KR w B vl ls c vE es W) : KR w B vl ls c vE es W.drew := h.later (drewB (Below.refl _ _))
/-- The decoder on its way; all else lies as it lay in W0. -/
structure LR (W0 : World) (D : Nat) (d : Dv) (v : Value) (W : World) : Prop where
  b : Below W0.heap.size W0 W
  k : Blk W D #[.int .i64 0, v, .int .i64 d.at', .int .i64 d.rst, .int .i64 d.rng] 35
  o : OwB 0 W v d.xs
theorem LR.later {W0 : World} {D : Nat} {d : Dv} {v : Value} {W W' : World} (h : LR W0 D d v W) (hb : Below W.heap.size W W') : LR W0 D d v W' := ⟨bthen h.b hb, h.k.later hb, h.o.later hb⟩
theorem LR.drew {W0 : World} {D : Nat} {d : Dv} {v : Value} {W : World} (h : LR W0 D d v W) : LR W0 D d v W.drew := h.later (drewB (Below.refl _ _))
theorem LR.put {W0 : World} {D : Nat} {d : Dv} {v : Value} {W : World} (h : LR W0 D d v W) {E : Nat} {vs : Array Value} {t : TypeId} (hE : Blk W E vs t) (hED : E ≠ D) (ht : t ≠ 5) (h0 : W0.heap.size ≤ E) (i : Nat) (x : Value) : LR W0 D d v (W.setCell ⟨E, i, none⟩ x) :=
  ⟨below_cell h.b h0 i x, h.k.other hED i x, ow_apart h.o hE ht (grown_set W E i x)⟩
theorem LR.step {W0 : World} {D : Nat} {d d' : Dv} {v v' : Value} {W w5 : World} (h : LR W0 D d v W) (hb : Below W.heap.size W w5) (ho : OwB W.heap.size w5 v' d'.xs) (hD : W0.heap.size ≤ D) :
    LR W0 D d' v' (((((w5.setCell ⟨D, 0, none⟩ (.int .i64 0)).setCell ⟨D, 1, none⟩ v').setCell ⟨D, 2, none⟩ (.int .i64 d'.at')).setCell ⟨D, 3, none⟩ (.int .i64 d'.rst)).setCell ⟨D, 4, none⟩ (.int .i64 d'.rng)) := by
  have h5 := h.k.later hb
  have HG := grown_set5 w5 D (.int .i64 0) v' (.int .i64 d'.at') (.int .i64 d'.rst) (.int .i64 d'.rng)
  exact ⟨below_set5 (bthen h.b hb) hD _ _ _ _ _, Blk.set5 h5 _ _ _ _ _, ow_apart (ho.mono (Nat.zero_le _)) h5 (by decide) HG⟩

set_option maxRecDepth 100000 in
set_option maxHeartbeats 8000000 in
theorem fnRanges_calls (a : Option Addr) (cap : Nat) (bs : List Int) (w : World) (hsl : Sl .u8 w (.slice a bs.length cap) bs) (hbd : ∀ x ∈ bs, 0 ≤ x ∧ x ≤ 255) :
    Calls Tryd.prog 3 #[.slice a bs.length cap] w fun e w' => e = .returned (.bool true) ∧ Below w.heap.size w w' := by
  by_cases hbig : 1048576 < bs.length
  · have hb' : (1048576 : Int) < bs.length := by omega
    clear hsl hbd
    go_enter Tryd.func3, Tryd.ntmps3
    go_wp2
    go_ret
    exact ⟨rfl, Below.refl _ _⟩
  · have hb' : (bs.length : Int) ≤ 1048576 := by omega
    have H1 := hid (drawEnc_calls a cap bs w hsl hbd (by omega))
    clear hsl hbd
    go_enter Tryd.func3, Tryd.ntmps3
    go_wp2_with (first | (go_at_call 6; go_in) | fail)
    refine H1.out.mono ?_
    rintro e w1 ⟨gl, cl, ls, rfl, hlen, ho1, hb1⟩
    have hl6 : ls.length ≤ 1048576 := by omega
    have HIm := hid (fun v W (h : SlS W v ls) => implEnc_calls v ls W h hl6)
    have HSp := hid (fun v W (h : SlS W v ls) => specEnc_calls v ls W h hl6)
    have HCo := hid (fun v W (h : SlS W v ls) => implCost_calls v ls W h hl6)
    have HL1 := hid hb1
    have HS1 := hid ho1.sls
    have HCs := hid (eC_cases ls)
    clear H1 ho1 hb1
    go_wp2_with fail
    refine (HIm.out _ _ HS1.out).mono ?_
    rintro e w2 ⟨vE, rfl, ho2, hb2⟩
    obtain ⟨aE, cE, rfl, _⟩ := ho2.sl
    have HK : Hid (KR w w2.heap.size (.slice (some ⟨gl, 0, none⟩) ls.length cl) ls (eC ls) (.slice aE (eL ls).length cE) (eL ls) (w2.alloc (.cells #[.int .i64 (eC ls), .slice aE (eL ls).length cE] 27))) :=
      ⟨Blk.new _ _ _, (HS1.out.later hb2).later (bmore (Below.refl _ _) _), ho2.sl.later (bmore (Below.refl _ _) _), bmore (bthen HL1.out hb2) _⟩
    clear ho2 hb2 HL1 HS1 HIm
    generalize eC ls = c at *
    generalize eL ls = es at *
    have hKd := HK.out.drew
    go_wp2_with fail
    generalize w2.alloc (.cells #[.int .i64 c, .slice aE es.length cE] 27) = w3 at *
    generalize w2.heap.size = B at *
    refine wp_region_noPanic ?_
    refine wp_region_held_drew (S := fun W => KR w B (.slice (some ⟨gl, 0, none⟩) ls.length cl) ls c (.slice aE es.length cE) es W) (by kernel_rfl) ?_ (fun hHeld => ?_)
    · assumption
    (refine wpAnyH_take (i := 0) (v := ?_) rfl (by kernel_rfl) (by kernel_rfl) (by kernel_rfl) (fun _ _ _ h => h) (Or.inl ⟨by rfl, ?_⟩) hHeld ?_; rotate_left; (intro w hSw; (obtain ⟨c0, c1, _⟩ := hSw.e.two; clear hSw); (go_simp <;> with_reducible rfl)); simp only [List.getElem_toArray, List.getElem_cons_zero, Act.put, List.setIfInBounds_toArray, List.set_cons_zero, List.set_cons_succ])
    (refine wpAnyH_take (i := 1) (v := ?_) rfl (by kernel_rfl) (by kernel_rfl) (by kernel_rfl) (fun _ _ _ h => h) (Or.inl ⟨by rfl, ?_⟩) hHeld ?_; rotate_left; (intro w hSw; (obtain ⟨c0, c1, _⟩ := hSw.e.two; clear hSw); (go_simp <;> with_reducible rfl)); simp only [List.getElem_toArray, List.getElem_cons_zero, List.getElem_cons_succ, Act.put, List.setIfInBounds_toArray, List.set_cons_zero, List.set_cons_succ])
    (refine wpAnyH_take (i := 2) (v := ?_) rfl (by kernel_rfl) (by kernel_rfl) (by kernel_rfl) (fun _ _ _ h => h) (Or.inl ⟨by rfl, ?_⟩) hHeld ?_; rotate_left; (intro w hSw; (obtain ⟨c0, c1, _⟩ := hSw.e.two; clear hSw); (go_simp <;> with_reducible rfl)); simp only [List.getElem_toArray, List.getElem_cons_zero, List.getElem_cons_succ, Act.put, List.setIfInBounds_toArray, List.set_cons_zero, List.set_cons_succ])
    (refine wpAnyH_ready (rs := [3]) (by kernel_rfl) (by simp) ?_; refine AllReadyH.cons rfl (fun K hK => ?_) AllReadyH.nil; go_simp; (refine (HSp.out _ _ hHeld.s).mono ?_; rintro e w4 ⟨vS, rfl, hoS, hbS⟩; obtain ⟨aS, cS, rfl, _⟩ := hoS.sl; have hK1 := hHeld.later hbS); refine hK.out _ _ ?_ (fun hHeld => ?_); (assumption); clear hK K; try dsimp only)
    (refine wpAnyH_take (i := 4) (v := ?_) rfl (by kernel_rfl) (by kernel_rfl) (by kernel_rfl) (fun _ _ _ h => h) (Or.inl ⟨by rfl, ?_⟩) hHeld ?_; rotate_left; (intro w hSw; (obtain ⟨c0, c1, _⟩ := hSw.e.two; clear hSw); (go_simp <;> with_reducible rfl)); simp only [List.getElem_toArray, List.getElem_cons_zero, List.getElem_cons_succ, Act.put, List.setIfInBounds_toArray, List.set_cons_zero, List.set_cons_succ])
    (refine wpAnyH_take (i := 5) (v := ?_) rfl (by kernel_rfl) (by kernel_rfl) (by kernel_rfl) (fun _ _ _ h => h) (Or.inl ⟨by rfl, ?_⟩) hHeld ?_; rotate_left; (intro w hSw; (obtain ⟨c0, c1, _⟩ := hSw.e.two; clear hSw); (go_simp <;> with_reducible rfl)); simp only [List.getElem_toArray, List.getElem_cons_zero, List.getElem_cons_succ, Act.put, List.setIfInBounds_toArray, List.set_cons_zero, List.set_cons_succ])
    (refine wpAnyH_take (i := 6) (v := ?_) rfl (by kernel_rfl) (by kernel_rfl) (by kernel_rfl) (fun _ _ _ h => h) (Or.inl ⟨by rfl, ?_⟩) hHeld ?_; rotate_left; (intro w hSw; (obtain ⟨c0, c1, _⟩ := hSw.e.two; clear hSw); (go_simp <;> with_reducible rfl)); simp only [List.getElem_toArray, List.getElem_cons_zero, List.getElem_cons_succ, Act.put, List.setIfInBounds_toArray, List.set_cons_zero, List.set_cons_succ])
    first | (refine wpAnyH_take (i := 7) (v := ?_) rfl (by kernel_rfl) (by kernel_rfl) (by kernel_rfl) (fun _ _ _ h => h) (Or.inl ⟨by rfl, ?_⟩) hHeld ?_; rotate_left; (intro w hSw; (obtain ⟨c0, c1, _⟩ := hSw.e.two; clear hSw); (go_simp <;> with_reducible rfl)); simp only [List.getElem_toArray, List.getElem_cons_zero, List.getElem_cons_succ, Act.put, List.setIfInBounds_toArray, List.set_cons_zero, List.set_cons_succ]) | (refine wpAnyH_take (i := 7) (v := undef) rfl (by kernel_rfl) (by kernel_rfl) (by kernel_rfl) (fun _ _ _ h => h) (Or.inr ⟨by rfl, rfl⟩) hHeld ?_; simp only [List.getElem_toArray, List.getElem_cons_zero, List.getElem_cons_succ, Act.put, List.setIfInBounds_toArray, List.set_cons_zero, List.set_cons_succ])
    first | (refine wpAnyH_take (i := 10) (v := ?_) rfl (by kernel_rfl) (by kernel_rfl) (by kernel_rfl) (fun _ _ _ h => h) (Or.inl ⟨by rfl, ?_⟩) hHeld ?_; rotate_left; (intro w hSw; (obtain ⟨c0, c1, _⟩ := hSw.e.two; clear hSw); (go_simp <;> with_reducible rfl)); simp only [List.getElem_toArray, List.getElem_cons_zero, List.getElem_cons_succ, Act.put, List.setIfInBounds_toArray, List.set_cons_zero, List.set_cons_succ]) | (refine wpAnyH_take (i := 10) (v := undef) rfl (by kernel_rfl) (by kernel_rfl) (by kernel_rfl) (fun _ _ _ h => h) (Or.inr ⟨by rfl, rfl⟩) hHeld ?_; simp only [List.getElem_toArray, List.getElem_cons_zero, List.getElem_cons_succ, Act.put, List.setIfInBounds_toArray, List.set_cons_zero, List.set_cons_succ])
    first | (refine wpAnyH_take (i := 11) (v := ?_) rfl (by kernel_rfl) (by kernel_rfl) (by kernel_rfl) (fun _ _ _ h => h) (Or.inl ⟨by rfl, ?_⟩) hHeld ?_; rotate_left; (intro w hSw; (obtain ⟨c0, c1, _⟩ := hSw.e.two; clear hSw); (go_simp <;> with_reducible rfl)); simp only [List.getElem_toArray, List.getElem_cons_zero, List.getElem_cons_succ, Act.put, List.setIfInBounds_toArray, List.set_cons_zero, List.set_cons_succ]) | (refine wpAnyH_take (i := 11) (v := undef) rfl (by kernel_rfl) (by kernel_rfl) (by kernel_rfl) (fun _ _ _ h => h) (Or.inr ⟨by rfl, rfl⟩) hHeld ?_; simp only [List.getElem_toArray, List.getElem_cons_zero, List.getElem_cons_succ, Act.put, List.setIfInBounds_toArray, List.set_cons_zero, List.set_cons_succ])
    first | (refine wpAnyH_take (i := 8) (v := undef) rfl (by kernel_rfl) (by kernel_rfl) (by kernel_rfl) (fun _ _ _ h => h) (Or.inr ⟨by rfl, rfl⟩) hHeld ?_; simp only [List.getElem_toArray, List.getElem_cons_zero, List.getElem_cons_succ, Act.put, List.setIfInBounds_toArray, List.set_cons_zero, List.set_cons_succ]) | (refine wpAnyH_ready (rs := [8]) (by kernel_rfl) (by simp) ?_; refine AllReadyH.cons rfl (fun K hK => ?_) AllReadyH.nil; go_simp; (refine (HCo.out _ _ hHeld.s).mono ?_; rintro e w5 ⟨rfl, hbC⟩; have hK2 := hHeld.later hbC); refine hK.out _ _ ?_ (fun hHeld => ?_); (assumption); clear hK K; try dsimp only)
    first | (refine wpAnyH_take (i := 9) (v := ?_) rfl (by kernel_rfl) (by kernel_rfl) (by kernel_rfl) (fun _ _ _ h => h) (Or.inl ⟨by rfl, ?_⟩) hHeld ?_; rotate_left; (intro w hSw; (obtain ⟨c0, c1, _⟩ := hSw.e.two; clear hSw); (go_simp <;> with_reducible rfl)); simp only [List.getElem_toArray, List.getElem_cons_zero, List.getElem_cons_succ, Act.put, List.setIfInBounds_toArray, List.set_cons_zero, List.set_cons_succ]) | (refine wpAnyH_take (i := 9) (v := undef) rfl (by kernel_rfl) (by kernel_rfl) (by kernel_rfl) (fun _ _ _ h => h) (Or.inr ⟨by rfl, rfl⟩) hHeld ?_; simp only [List.getElem_toArray, List.getElem_cons_zero, List.getElem_cons_succ, Act.put, List.setIfInBounds_toArray, List.set_cons_zero, List.set_cons_succ])
    first | (refine wpAnyH_take (i := 12) (v := ?_) rfl (by kernel_rfl) (by kernel_rfl) (by kernel_rfl) (fun _ _ _ h => h) (Or.inl ⟨by rfl, ?_⟩) hHeld ?_; rotate_left; (intro w hSw; (obtain ⟨c0, c1, _⟩ := hSw.e.two; clear hSw); (go_simp <;> with_reducible rfl)); simp only [List.getElem_toArray, List.getElem_cons_zero, List.getElem_cons_succ, Act.put, List.setIfInBounds_toArray, List.set_cons_zero, List.set_cons_succ]) | (refine wpAnyH_take (i := 12) (v := undef) rfl (by kernel_rfl) (by kernel_rfl) (by kernel_rfl) (fun _ _ _ h => h) (Or.inr ⟨by rfl, rfl⟩) hHeld ?_; simp only [List.getElem_toArray, List.getElem_cons_zero, List.getElem_cons_succ, Act.put, List.setIfInBounds_toArray, List.set_cons_zero, List.set_cons_succ])
    (refine wpAnyH_take (i := 13) (v := ?_) rfl (by kernel_rfl) (by kernel_rfl) (by kernel_rfl) (fun _ _ _ h => h) (Or.inl ⟨by rfl, ?_⟩) hHeld ?_; rotate_left; (intro w hSw; (obtain ⟨c0, c1, _⟩ := hSw.e.two; clear hSw); (go_simp <;> with_reducible rfl)); simp only [List.getElem_toArray, List.getElem_cons_zero, List.getElem_cons_succ, Act.put, List.setIfInBounds_toArray, List.set_cons_zero, List.set_cons_succ])
    refine wpAnyH_done (by kernel_rfl) ?_ _
    refine NoPanic.normal ?_
    have HK2 := hid hHeld
    clear hHeld hK1 hK2 hoS hbS hbC HK hKd HSp
    obtain ⟨c0, c1, _⟩ := HK2.out.e.two
    rcases HCs.out with ⟨h0, hL⟩ | ⟨h0, hL, hl4, hok⟩
    · have hc' : (c == 0) = false := by simpa using h0
      have HL := hid HK2.out.l
      clear HCs
      go_wp2
      go_ret
      exact ⟨rfl, HL.out⟩
    · subst h0
      subst hL
      have Hok := hid hok
      have hel := l_len hok hl4
      have HSt := hid (fun v W (h : Sl .u8 W v (encL (sns ls))) => implStart_calls v (encL (sns ls)) W h (encL_bd _) (by omega))
      obtain ⟨st1, st2⟩ := d_start hok hl4
      rw [st1, st2] at HSt
      clear st1 st2 HCs hok
      go_wp2_with fail
      refine (HSt.out _ _ HK2.out.q).mono ?_
      rintro e w6 ⟨vD, rfl, ho6, hb6⟩
      obtain ⟨aD, cD, rfl, _⟩ := ho6.sl
      have HK6 := hid (HK2.out.later hb6)
      have HB6 : Hid (B < w6.heap.size) := HK6.out.e.lt
      have HR : Hid (LR w6 w6.heap.size (dAt ls 0) (.slice aD (dAt ls 0).xs.length cD) (w6.alloc (.cells #[.int .i64 0, .slice aD (dAt ls 0).xs.length cD, .int .i64 (dAt ls 0).at', .int .i64 (dAt ls 0).rst, .int .i64 (dAt ls 0).rng] 35))) :=
        ⟨bmore (Below.refl _ _) _, Blk.new _ _ _, (ho6.mono (Nat.zero_le _)).alloc _⟩
      obtain ⟨c0, c1, _⟩ := HK6.out.e.two
      clear ho6 hb6 HK2 HSt
      generalize hd0 : dAt ls 0 = d0 at *
      have Hd0 := hid hd0
      clear hd0
      obtain ⟨xs0, at0, rst0, rng0⟩ := d0
      dsimp only at HR
      have hRd := HR.out.drew
      go_wp2_with fail
      generalize w6.alloc (.cells #[.int .i64 0, .slice aD xs0.length cD, .int .i64 at0, .int .i64 rst0, .int .i64 rng0] 35) = w7 at *
      refine wp_region_noPanic ?_
      refine wp_region_held_drew (S := fun W => LR w6 w6.heap.size ⟨xs0, at0, rst0, rng0⟩ (.slice aD xs0.length cD) W) (by kernel_rfl) ?_ (fun hHeld => ?_)
      · assumption
      (refine wpAnyH_take (i := 0) (v := ?_) rfl (by kernel_rfl) (by kernel_rfl) (by kernel_rfl) (fun _ _ _ h => h) (Or.inl ⟨by rfl, ?_⟩) hHeld ?_; rotate_left; (intro w hSw; (obtain ⟨t0, t1, t2, t3, t4, _⟩ := hSw.k.five; have e0 := (hSw.b.cell (p := ⟨B, 0, none⟩) HB6.out).trans c0; have e1 := (hSw.b.cell (p := ⟨B, 1, none⟩) HB6.out).trans c1; clear hSw); (go_simp <;> with_reducible rfl)); simp only [List.getElem_toArray, List.getElem_cons_zero, Act.put, List.setIfInBounds_toArray, List.set_cons_zero, List.set_cons_succ])
      (refine wpAnyH_take (i := 1) (v := ?_) rfl (by kernel_rfl) (by kernel_rfl) (by kernel_rfl) (fun _ _ _ h => h) (Or.inl ⟨by rfl, ?_⟩) hHeld ?_; rotate_left; (intro w hSw; (obtain ⟨t0, t1, t2, t3, t4, _⟩ := hSw.k.five; have e0 := (hSw.b.cell (p := ⟨B, 0, none⟩) HB6.out).trans c0; have e1 := (hSw.b.cell (p := ⟨B, 1, none⟩) HB6.out).trans c1; clear hSw); (go_simp <;> with_reducible rfl)); simp only [List.getElem_toArray, List.getElem_cons_zero, List.getElem_cons_succ, Act.put, List.setIfInBounds_toArray, List.set_cons_zero, List.set_cons_succ])
      (refine wpAnyH_take (i := 2) (v := ?_) rfl (by kernel_rfl) (by kernel_rfl) (by kernel_rfl) (fun _ _ _ h => h) (Or.inl ⟨by rfl, ?_⟩) hHeld ?_; rotate_left; (intro w hSw; (obtain ⟨t0, t1, t2, t3, t4, _⟩ := hSw.k.five; have e0 := (hSw.b.cell (p := ⟨B, 0, none⟩) HB6.out).trans c0; have e1 := (hSw.b.cell (p := ⟨B, 1, none⟩) HB6.out).trans c1; clear hSw); (go_simp <;> with_reducible rfl)); simp only [List.getElem_toArray, List.getElem_cons_zero, List.getElem_cons_succ, Act.put, List.setIfInBounds_toArray, List.set_cons_zero, List.set_cons_succ])
      (refine wpAnyH_take (i := 3) (v := ?_) rfl (by kernel_rfl) (by kernel_rfl) (by kernel_rfl) (fun _ _ _ h => h) (Or.inl ⟨by rfl, ?_⟩) hHeld ?_; rotate_left; (intro w hSw; (obtain ⟨t0, t1, t2, t3, t4, _⟩ := hSw.k.five; have e0 := (hSw.b.cell (p := ⟨B, 0, none⟩) HB6.out).trans c0; have e1 := (hSw.b.cell (p := ⟨B, 1, none⟩) HB6.out).trans c1; clear hSw); (go_simp <;> with_reducible rfl)); simp only [List.getElem_toArray, List.getElem_cons_zero, List.getElem_cons_succ, Act.put, List.setIfInBounds_toArray, List.set_cons_zero, List.set_cons_succ])
      first | (refine wpAnyH_take (i := 4) (v := ?_) rfl (by kernel_rfl) (by kernel_rfl) (by kernel_rfl) (fun _ _ _ h => h) (Or.inl ⟨by rfl, ?_⟩) hHeld ?_; rotate_left; (intro w hSw; (obtain ⟨t0, t1, t2, t3, t4, _⟩ := hSw.k.five; have e0 := (hSw.b.cell (p := ⟨B, 0, none⟩) HB6.out).trans c0; have e1 := (hSw.b.cell (p := ⟨B, 1, none⟩) HB6.out).trans c1; clear hSw); (go_simp <;> with_reducible rfl)); simp only [List.getElem_toArray, List.getElem_cons_zero, List.getElem_cons_succ, Act.put, List.setIfInBounds_toArray, List.set_cons_zero, List.set_cons_succ]) | (refine wpAnyH_take (i := 4) (v := undef) rfl (by kernel_rfl) (by kernel_rfl) (by kernel_rfl) (fun _ _ _ h => h) (Or.inr ⟨by rfl, rfl⟩) hHeld ?_; simp only [List.getElem_toArray, List.getElem_cons_zero, List.getElem_cons_succ, Act.put, List.setIfInBounds_toArray, List.set_cons_zero, List.set_cons_succ])
      first | (refine wpAnyH_take (i := 7) (v := ?_) rfl (by kernel_rfl) (by kernel_rfl) (by kernel_rfl) (fun _ _ _ h => h) (Or.inl ⟨by rfl, ?_⟩) hHeld ?_; rotate_left; (intro w hSw; (obtain ⟨t0, t1, t2, t3, t4, _⟩ := hSw.k.five; have e0 := (hSw.b.cell (p := ⟨B, 0, none⟩) HB6.out).trans c0; have e1 := (hSw.b.cell (p := ⟨B, 1, none⟩) HB6.out).trans c1; clear hSw); (go_simp <;> with_reducible rfl)); simp only [List.getElem_toArray, List.getElem_cons_zero, List.getElem_cons_succ, Act.put, List.setIfInBounds_toArray, List.set_cons_zero, List.set_cons_succ]) | (refine wpAnyH_take (i := 7) (v := undef) rfl (by kernel_rfl) (by kernel_rfl) (by kernel_rfl) (fun _ _ _ h => h) (Or.inr ⟨by rfl, rfl⟩) hHeld ?_; simp only [List.getElem_toArray, List.getElem_cons_zero, List.getElem_cons_succ, Act.put, List.setIfInBounds_toArray, List.set_cons_zero, List.set_cons_succ])
      first | (refine wpAnyH_take (i := 8) (v := ?_) rfl (by kernel_rfl) (by kernel_rfl) (by kernel_rfl) (fun _ _ _ h => h) (Or.inl ⟨by rfl, ?_⟩) hHeld ?_; rotate_left; (intro w hSw; (obtain ⟨t0, t1, t2, t3, t4, _⟩ := hSw.k.five; have e0 := (hSw.b.cell (p := ⟨B, 0, none⟩) HB6.out).trans c0; have e1 := (hSw.b.cell (p := ⟨B, 1, none⟩) HB6.out).trans c1; clear hSw); (go_simp <;> with_reducible rfl)); simp only [List.getElem_toArray, List.getElem_cons_zero, List.getElem_cons_succ, Act.put, List.setIfInBounds_toArray, List.set_cons_zero, List.set_cons_succ]) | (refine wpAnyH_take (i := 8) (v := undef) rfl (by kernel_rfl) (by kernel_rfl) (by kernel_rfl) (fun _ _ _ h => h) (Or.inr ⟨by rfl, rfl⟩) hHeld ?_; simp only [List.getElem_toArray, List.getElem_cons_zero, List.getElem_cons_succ, Act.put, List.setIfInBounds_toArray, List.set_cons_zero, List.set_cons_succ])
      first | (refine wpAnyH_take (i := 9) (v := ?_) rfl (by kernel_rfl) (by kernel_rfl) (by kernel_rfl) (fun _ _ _ h => h) (Or.inl ⟨by rfl, ?_⟩) hHeld ?_; rotate_left; (intro w hSw; (obtain ⟨t0, t1, t2, t3, t4, _⟩ := hSw.k.five; have e0 := (hSw.b.cell (p := ⟨B, 0, none⟩) HB6.out).trans c0; have e1 := (hSw.b.cell (p := ⟨B, 1, none⟩) HB6.out).trans c1; clear hSw); (go_simp <;> with_reducible rfl)); simp only [List.getElem_toArray, List.getElem_cons_zero, List.getElem_cons_succ, Act.put, List.setIfInBounds_toArray, List.set_cons_zero, List.set_cons_succ]) | (refine wpAnyH_take (i := 9) (v := undef) rfl (by kernel_rfl) (by kernel_rfl) (by kernel_rfl) (fun _ _ _ h => h) (Or.inr ⟨by rfl, rfl⟩) hHeld ?_; simp only [List.getElem_toArray, List.getElem_cons_zero, List.getElem_cons_succ, Act.put, List.setIfInBounds_toArray, List.set_cons_zero, List.set_cons_succ])
      first | (refine wpAnyH_take (i := 5) (v := undef) rfl (by kernel_rfl) (by kernel_rfl) (by kernel_rfl) (fun _ _ _ h => h) (Or.inr ⟨by rfl, rfl⟩) hHeld ?_; simp only [List.getElem_toArray, List.getElem_cons_zero, List.getElem_cons_succ, Act.put, List.setIfInBounds_toArray, List.set_cons_zero, List.set_cons_succ]) | (refine wpAnyH_ready (rs := [5]) (by kernel_rfl) (by simp) ?_; refine AllReadyH.cons rfl (fun K hK => ?_) AllReadyH.nil; go_simp; (refine (HCo.out _ _ (HK6.out.s.later hHeld.b)).mono ?_; rintro e w8 ⟨rfl, hb8⟩; have hK1 := hHeld.later hb8); refine hK.out _ _ ?_ (fun hHeld => ?_); (assumption); clear hK K; try dsimp only)
      first | (refine wpAnyH_take (i := 6) (v := ?_) rfl (by kernel_rfl) (by kernel_rfl) (by kernel_rfl) (fun _ _ _ h => h) (Or.inl ⟨by rfl, ?_⟩) hHeld ?_; rotate_left; (intro w hSw; (obtain ⟨t0, t1, t2, t3, t4, _⟩ := hSw.k.five; have e0 := (hSw.b.cell (p := ⟨B, 0, none⟩) HB6.out).trans c0; have e1 := (hSw.b.cell (p := ⟨B, 1, none⟩) HB6.out).trans c1; clear hSw); (go_simp <;> with_reducible rfl)); simp only [List.getElem_toArray, List.getElem_cons_zero, List.getElem_cons_succ, Act.put, List.setIfInBounds_toArray, List.set_cons_zero, List.set_cons_succ]) | (refine wpAnyH_take (i := 6) (v := undef) rfl (by kernel_rfl) (by kernel_rfl) (by kernel_rfl) (fun _ _ _ h => h) (Or.inr ⟨by rfl, rfl⟩) hHeld ?_; simp only [List.getElem_toArray, List.getElem_cons_zero, List.getElem_cons_succ, Act.put, List.setIfInBounds_toArray, List.set_cons_zero, List.set_cons_succ])
      first | (refine wpAnyH_take (i := 10) (v := ?_) rfl (by kernel_rfl) (by kernel_rfl) (by kernel_rfl) (fun _ _ _ h => h) (Or.inl ⟨by rfl, ?_⟩) hHeld ?_; rotate_left; (intro w hSw; (obtain ⟨t0, t1, t2, t3, t4, _⟩ := hSw.k.five; have e0 := (hSw.b.cell (p := ⟨B, 0, none⟩) HB6.out).trans c0; have e1 := (hSw.b.cell (p := ⟨B, 1, none⟩) HB6.out).trans c1; clear hSw); (go_simp <;> with_reducible rfl)); simp only [List.getElem_toArray, List.getElem_cons_zero, List.getElem_cons_succ, Act.put, List.setIfInBounds_toArray, List.set_cons_zero, List.set_cons_succ]) | (refine wpAnyH_take (i := 10) (v := undef) rfl (by kernel_rfl) (by kernel_rfl) (by kernel_rfl) (fun _ _ _ h => h) (Or.inr ⟨by rfl, rfl⟩) hHeld ?_; simp only [List.getElem_toArray, List.getElem_cons_zero, List.getElem_cons_succ, Act.put, List.setIfInBounds_toArray, List.set_cons_zero, List.set_cons_succ])
      (refine wpAnyH_take (i := 11) (v := ?_) rfl (by kernel_rfl) (by kernel_rfl) (by kernel_rfl) (fun _ _ _ h => h) (Or.inl ⟨by rfl, ?_⟩) hHeld ?_; rotate_left; (intro w hSw; (obtain ⟨t0, t1, t2, t3, t4, _⟩ := hSw.k.five; have e0 := (hSw.b.cell (p := ⟨B, 0, none⟩) HB6.out).trans c0; have e1 := (hSw.b.cell (p := ⟨B, 1, none⟩) HB6.out).trans c1; clear hSw); (go_simp <;> with_reducible rfl)); simp only [List.getElem_toArray, List.getElem_cons_zero, List.getElem_cons_succ, Act.put, List.setIfInBounds_toArray, List.set_cons_zero, List.set_cons_succ])
      refine wpAnyH_done (by kernel_rfl) ?_ _
      refine NoPanic.normal ?_
      have HR8 := hid hHeld
      rw [← Hd0.out] at HR8
      clear hHeld hK1 hb8 HR hRd HCo
      go_wp2_with fail
      go_loopw [6] (fun i wr => ∃ (k : Nat) (v : Value), i = .int .i64 (k : Int) ∧ k ≤ ls.length ∧ Hid (LR w6 w6.heap.size (dAt ls k) v wr)) (fun i _ => ls.length - (intOf i).toNat)
      case atStart => exact ⟨0, _, rfl, Nat.zero_le _, HR8.out⟩
      case round =>
        clear HR8
        obtain ⟨k, v, rfl, hk, hR⟩ := hrel
        by_cases hlt : k < ls.length
        · have hne : ls ≠ [] := by intro e; rw [e] at hlt; simp at hlt
          obtain ⟨a', cap', hv, hc⟩ := HK6.out.s
          cases hv
          obtain ⟨b', off, he, hbl, hcell⟩ := hc hne
          cases he
          obtain ⟨l0, l1, l2⟩ := hcell k hlt
          rw [Nat.zero_add] at l0 l1 l2
          clear hc hcell
          generalize hx : ls.getD k (0, 0, 0) = x at *
          obtain ⟨lo, sz, tot⟩ := x
          dsimp only at l0 l1 l2
          obtain ⟨n1, n2, n3, n4⟩ := d_next Hok.out hl4 hlt hx
          obtain ⟨t1, t2⟩ := d_take Hok.out hl4 hlt hx
          have f1 := d_fault Hok.out hl4 (k + 1)
          have hs0 := Hok.out k hlt
          rw [hx] at hs0
          obtain ⟨⟨z1, z2⟩, ⟨z3, z4⟩, z5, z6⟩ := of_sF (show sF lo sz tot = 0 from hs0)
          have HNx := hid (fun aa cc W => implNext_calls aa (dAt ls k).xs.length cc (dAt ls k).at' (dAt ls k).rst (dAt ls k).rng tot W (show (encL (sns ls)).length ≤ 1048576 by omega))
          have HTk := hid (fun v W (h : Sl .u8 W v (dAt ls k).xs) => implTake_calls v (dAt ls k) lo sz tot W h (encL_bd _) (show (encL (sns ls)).length ≤ 1048576 by omega))
          have HDF := hid (fun aa cc W => implDF_calls aa (dAt ls (k + 1)).xs.length cc (dAt ls (k + 1)).at' (dAt ls (k + 1)).rst (dAt ls (k + 1)).rng W (show (encL (sns ls)).length ≤ 1048576 by omega))
          rw [n1, n2] at HNx
          rw [t1, t2] at HTk
          rw [f1] at HDF
          clear n1 n2 t1 t2 f1 hs0 hx Hd0
          generalize nV (dAt ls k).rst (dAt ls k).rng tot = nv at *
          generalize hd2 : dAt ls (k + 1) = d2 at *
          generalize dAt ls k = d at *
          have Hd2 := hid hd2
          clear hd2
          obtain ⟨xs, at', rst, rng⟩ := d
          obtain ⟨xs2, at2, rst2, rng2⟩ := d2
          dsimp only at HNx HTk HDF
          obtain ⟨av, cv, rfl, _⟩ := hR.out.o.sl
          go_upto_region 15 with fail
          go_cut [7] from 52 to 59 (fun p wc => ∃ E : Nat, p = .pointer (some ⟨E, 0, none⟩) ∧ Hid (Blk wc E #[.int .i64 0, .int .i64 nv] 30) ∧ Hid (LR w6 w6.heap.size ⟨xs, at', rst, rng⟩ (.slice av xs.length cv) wc))
          case first =>
            have hL0 := hR.out.drew
            have hlt0 := hR.out.k.lt
            have hA1 : LR w6 w6.heap.size ⟨xs, at', rst, rng⟩ (.slice av xs.length cv) (wr.alloc (.cells #[.int .i64 0, .int .i64 0] 30)).drew := (hR.out.later (bmore (Below.refl _ _) _)).drew
            have hE1 : Blk (wr.alloc (.cells #[.int .i64 0, .int .i64 0] 30)).drew wr.heap.size #[.int .i64 0, .int .i64 0] 30 := Blk.new wr _ _
            refine wp_region_noPanic ?_
            refine wp_region_held_drew (S := fun W => LR w6 w6.heap.size ⟨xs, at', rst, rng⟩ (.slice av xs.length cv) W) (by kernel_rfl) (by first | exact hL9 | exact hP9 | exact hL7 | exact hP7 | exact hA1 | exact hL0) (fun hHeld => ?_)
            (refine wpAnyH_take (i := 0) (v := ?_) rfl (by kernel_rfl) (by kernel_rfl) (by kernel_rfl) (fun _ _ _ h => h) (Or.inl ⟨by rfl, ?_⟩) hHeld ?_; rotate_left; (intro w hSw; (obtain ⟨t0, t1, t2, t3, t4, _⟩ := hSw.k.five; have s2 := (hSw.b.cell (p := ⟨gl, k * 3 + 2, none⟩) hbl).trans l2; clear hSw); (go_simp <;> with_reducible rfl)); simp only [List.getElem_toArray, List.getElem_cons_zero, Act.put, List.setIfInBounds_toArray, List.set_cons_zero, List.set_cons_succ])
            (refine wpAnyH_take (i := 1) (v := ?_) rfl (by kernel_rfl) (by kernel_rfl) (by kernel_rfl) (fun _ _ _ h => h) (Or.inl ⟨by rfl, ?_⟩) hHeld ?_; rotate_left; (intro w hSw; (obtain ⟨t0, t1, t2, t3, t4, _⟩ := hSw.k.five; have s2 := (hSw.b.cell (p := ⟨gl, k * 3 + 2, none⟩) hbl).trans l2; clear hSw); (go_simp <;> with_reducible rfl)); simp only [List.getElem_toArray, List.getElem_cons_zero, List.getElem_cons_succ, Act.put, List.setIfInBounds_toArray, List.set_cons_zero, List.set_cons_succ])
            (refine wpAnyH_take (i := 2) (v := ?_) rfl (by kernel_rfl) (by kernel_rfl) (by kernel_rfl) (fun _ _ _ h => h) (Or.inl ⟨by rfl, ?_⟩) hHeld ?_; rotate_left; (intro w hSw; (obtain ⟨t0, t1, t2, t3, t4, _⟩ := hSw.k.five; have s2 := (hSw.b.cell (p := ⟨gl, k * 3 + 2, none⟩) hbl).trans l2; clear hSw); (go_simp <;> with_reducible rfl)); simp only [List.getElem_toArray, List.getElem_cons_zero, List.getElem_cons_succ, Act.put, List.setIfInBounds_toArray, List.set_cons_zero, List.set_cons_succ])
            (refine wpAnyH_take (i := 3) (v := ?_) rfl (by kernel_rfl) (by kernel_rfl) (by kernel_rfl) (fun _ _ _ h => h) (Or.inl ⟨by rfl, ?_⟩) hHeld ?_; rotate_left; (intro w hSw; (obtain ⟨t0, t1, t2, t3, t4, _⟩ := hSw.k.five; have s2 := (hSw.b.cell (p := ⟨gl, k * 3 + 2, none⟩) hbl).trans l2; clear hSw); (go_simp <;> with_reducible rfl)); simp only [List.getElem_toArray, List.getElem_cons_zero, List.getElem_cons_succ, Act.put, List.setIfInBounds_toArray, List.set_cons_zero, List.set_cons_succ])
            (refine wpAnyH_take (i := 4) (v := ?_) rfl (by kernel_rfl) (by kernel_rfl) (by kernel_rfl) (fun _ _ _ h => h) (Or.inl ⟨by rfl, ?_⟩) hHeld ?_; rotate_left; (intro w hSw; (obtain ⟨t0, t1, t2, t3, t4, _⟩ := hSw.k.five; have s2 := (hSw.b.cell (p := ⟨gl, k * 3 + 2, none⟩) hbl).trans l2; clear hSw); (go_simp <;> with_reducible rfl)); simp only [List.getElem_toArray, List.getElem_cons_zero, List.getElem_cons_succ, Act.put, List.setIfInBounds_toArray, List.set_cons_zero, List.set_cons_succ])
            (refine wpAnyH_take (i := 5) (v := ?_) rfl (by kernel_rfl) (by kernel_rfl) (by kernel_rfl) (fun _ _ _ h => h) (Or.inl ⟨by rfl, ?_⟩) hHeld ?_; rotate_left; (intro w hSw; (obtain ⟨t0, t1, t2, t3, t4, _⟩ := hSw.k.five; have s2 := (hSw.b.cell (p := ⟨gl, k * 3 + 2, none⟩) hbl).trans l2; clear hSw); (go_simp <;> with_reducible rfl)); simp only [List.getElem_toArray, List.getElem_cons_zero, List.getElem_cons_succ, Act.put, List.setIfInBounds_toArray, List.set_cons_zero, List.set_cons_succ])
            (refine wpAnyH_take (i := 6) (v := ?_) rfl (by kernel_rfl) (by kernel_rfl) (by kernel_rfl) (fun _ _ _ h => h) (Or.inl ⟨by rfl, ?_⟩) hHeld ?_; rotate_left; (intro w hSw; (obtain ⟨t0, t1, t2, t3, t4, _⟩ := hSw.k.five; have s2 := (hSw.b.cell (p := ⟨gl, k * 3 + 2, none⟩) hbl).trans l2; clear hSw); (go_simp <;> with_reducible rfl)); simp only [List.getElem_toArray, List.getElem_cons_zero, List.getElem_cons_succ, Act.put, List.setIfInBounds_toArray, List.set_cons_zero, List.set_cons_succ])
            refine wpAnyH_ready (rs := [7, 8]) (by kernel_rfl) (by simp) ?_
            refine (AllReadyH.cons rfl (fun K hK => ?_) (AllReadyH.cons rfl (fun K hK => ?_) AllReadyH.nil))
            · go_simp
              (refine (HNx.out _ _ _).mono ?_; rintro e w9 ⟨rfl, hb9⟩; have hL9 := hHeld.later hb9; have hL7 := hL9.later (bmore (Below.refl _ _) (.cells #[.int .i64 0, .int .i64 0] 30)); have hP7 := hL9.later (bmore (Below.refl _ _) (.cells #[.int .i64 0, .int .i64 nv] 30)))
              refine hK.out _ _ (by first | exact hL9 | exact hP9 | exact hL7 | exact hP7 | exact hA1 | exact hL0) (fun hHeld => ?_)
              clear hK K
              try dsimp only
              refine wpAnyH_ready (rs := [8]) (by kernel_rfl) (by simp) ?_
              refine (AllReadyH.cons rfl (fun K hK => ?_) AllReadyH.nil)
              go_simp
              skip
              refine hK.out _ _ (by first | exact hL9 | exact hP9 | exact hL7 | exact hP7 | exact hA1 | exact hL0) (fun hHeld => ?_)
              clear hK K
              try simp only [List.getElem_toArray, List.getElem_cons_zero, List.getElem_cons_succ, Act.put, List.setIfInBounds_toArray, List.set_cons_zero, List.set_cons_succ]
              refine wpAnyH_ready (rs := [9]) (by kernel_rfl) (by simp) ?_
              refine (AllReadyH.cons rfl (fun K hK => ?_) AllReadyH.nil)
              go_simp
              skip
              refine hK.out _ _ (by first | exact hL9 | exact hP9 | exact hL7 | exact hP7 | exact hA1 | exact hL0) (fun hHeld => ?_)
              clear hK K
              try simp only [List.getElem_toArray, List.getElem_cons_zero, List.getElem_cons_succ, Act.put, List.setIfInBounds_toArray, List.set_cons_zero, List.set_cons_succ]
              refine wpAnyH_done (by kernel_rfl) ?_ _
              refine NoPanic.normal ?_
              go_wp2_with fail
              go_meet
              case rel => exact ⟨_, rfl, Blk.new _ _ _, hP7⟩
            · go_simp
              skip
              refine hK.out _ _ (by first | exact hL9 | exact hP9 | exact hL7 | exact hP7 | exact hA1 | exact hL0) (fun hHeld => ?_)
              clear hK K
              try simp only [List.getElem_toArray, List.getElem_cons_zero, List.getElem_cons_succ, Act.put, List.setIfInBounds_toArray, List.set_cons_zero, List.set_cons_succ]
              refine wpAnyH_ready (rs := [7]) (by kernel_rfl) (by simp) ?_
              refine (AllReadyH.cons rfl (fun K hK => ?_) AllReadyH.nil)
              go_simp
              (refine (HNx.out _ _ _).mono ?_; rintro e w9 ⟨rfl, hb9⟩; have hL9 := hHeld.later hb9; have hE9 := hE1.later hb9; obtain ⟨y0, y1, y2, y3⟩ := hE9.two; have hP9 := (hL9.put hE9 (by have := hR.out.k.lt; omega) (by decide) (by omega) 0 (.int .i64 0)).put (hE9.set 0 (.int .i64 0)) (by omega) (by decide) (by omega) 1 (.int .i64 nv); have hQ9 := (hE9.set 0 (.int .i64 0)).set 1 (.int .i64 nv))
              refine hK.out _ _ (by first | exact hL9 | exact hP9 | exact hL7 | exact hP7 | exact hA1 | exact hL0) (fun hHeld => ?_)
              clear hK K
              try dsimp only
              refine wpAnyH_ready (rs := [9]) (by kernel_rfl) (by simp) ?_
              refine (AllReadyH.cons rfl (fun K hK => ?_) AllReadyH.nil)
              go_simp
              skip
              refine hK.out _ _ (by first | exact hL9 | exact hP9 | exact hL7 | exact hP7 | exact hA1 | exact hL0) (fun hHeld => ?_)
              clear hK K
              try simp only [List.getElem_toArray, List.getElem_cons_zero, List.getElem_cons_succ, Act.put, List.setIfInBounds_toArray, List.set_cons_zero, List.set_cons_succ]
              refine wpAnyH_done (by kernel_rfl) ?_ _
              refine NoPanic.normal ?_
              go_wp2_with fail
              go_meet
              case rel => exact ⟨_, rfl, hQ9, hP9⟩
          case rest =>
            obtain ⟨E, rfl, hE, hL⟩ := hcut
            clear HNx hR
            have q1 : decide (nv < lo) = false := decide_eq_false (by omega)
            have q2 : decide (lo + sz ≤ nv) = false := decide_eq_false (by omega)
            have w1' : IntKind.i64.wrap (lo + sz) = lo + sz := wrapk_of (by omega) (by omega)
            have w2' : ¬ nv < lo := by omega
            have w3' : ¬ lo + sz ≤ nv := by omega
            have hH : LR w6 w6.heap.size ⟨xs, at', rst, rng⟩ (.slice av xs.length cv) wc.drew ∧ Blk wc.drew E #[.int .i64 0, .int .i64 nv] 30 := ⟨hL.out.drew, hE.out.drew 1⟩
            clear hL hE
            go_wp2_with fail
            refine wp_region_noPanic ?_
            refine wp_region_held_drew (S := fun W => LR w6 w6.heap.size ⟨xs, at', rst, rng⟩ (.slice av xs.length cv) W ∧ Blk W E #[.int .i64 0, .int .i64 nv] 30) (by kernel_rfl) ?_ (fun hHeld => ?_)
            · assumption
            (refine wpAnyH_take (i := 0) (v := ?_) rfl (by kernel_rfl) (by kernel_rfl) (by kernel_rfl) (fun _ _ _ h => h) (Or.inl ⟨by rfl, ?_⟩) hHeld ?_; rotate_left; (intro w hSw; (obtain ⟨m0, m1, _⟩ := hSw.2.two; have s0 := (hSw.1.b.cell (p := ⟨gl, k * 3, none⟩) hbl).trans l0; have s1 := (hSw.1.b.cell (p := ⟨gl, k * 3 + 1, none⟩) hbl).trans l1; clear hSw); (go_simp <;> with_reducible rfl)); simp only [List.getElem_toArray, List.getElem_cons_zero, Act.put, List.setIfInBounds_toArray, List.set_cons_zero, List.set_cons_succ])
            (refine wpAnyH_take (i := 1) (v := ?_) rfl (by kernel_rfl) (by kernel_rfl) (by kernel_rfl) (fun _ _ _ h => h) (Or.inl ⟨by rfl, ?_⟩) hHeld ?_; rotate_left; (intro w hSw; (obtain ⟨m0, m1, _⟩ := hSw.2.two; have s0 := (hSw.1.b.cell (p := ⟨gl, k * 3, none⟩) hbl).trans l0; have s1 := (hSw.1.b.cell (p := ⟨gl, k * 3 + 1, none⟩) hbl).trans l1; clear hSw); (go_simp <;> with_reducible rfl)); simp only [List.getElem_toArray, List.getElem_cons_zero, List.getElem_cons_succ, Act.put, List.setIfInBounds_toArray, List.set_cons_zero, List.set_cons_succ])
            (refine wpAnyH_take (i := 2) (v := ?_) rfl (by kernel_rfl) (by kernel_rfl) (by kernel_rfl) (fun _ _ _ h => h) (Or.inl ⟨by rfl, ?_⟩) hHeld ?_; rotate_left; (intro w hSw; (obtain ⟨m0, m1, _⟩ := hSw.2.two; have s0 := (hSw.1.b.cell (p := ⟨gl, k * 3, none⟩) hbl).trans l0; have s1 := (hSw.1.b.cell (p := ⟨gl, k * 3 + 1, none⟩) hbl).trans l1; clear hSw); (go_simp <;> with_reducible rfl)); simp only [List.getElem_toArray, List.getElem_cons_zero, List.getElem_cons_succ, Act.put, List.setIfInBounds_toArray, List.set_cons_zero, List.set_cons_succ])
            (refine wpAnyH_take (i := 3) (v := ?_) rfl (by kernel_rfl) (by kernel_rfl) (by kernel_rfl) (fun _ _ _ h => h) (Or.inl ⟨by rfl, ?_⟩) hHeld ?_; rotate_left; (intro w hSw; (obtain ⟨m0, m1, _⟩ := hSw.2.two; have s0 := (hSw.1.b.cell (p := ⟨gl, k * 3, none⟩) hbl).trans l0; have s1 := (hSw.1.b.cell (p := ⟨gl, k * 3 + 1, none⟩) hbl).trans l1; clear hSw); (go_simp <;> with_reducible rfl)); simp only [List.getElem_toArray, List.getElem_cons_zero, List.getElem_cons_succ, Act.put, List.setIfInBounds_toArray, List.set_cons_zero, List.set_cons_succ])
            first | (refine wpAnyH_take (i := 4) (v := ?_) rfl (by kernel_rfl) (by kernel_rfl) (by kernel_rfl) (fun _ _ _ h => h) (Or.inl ⟨by rfl, ?_⟩) hHeld ?_; rotate_left; (intro w hSw; (obtain ⟨m0, m1, _⟩ := hSw.2.two; have s0 := (hSw.1.b.cell (p := ⟨gl, k * 3, none⟩) hbl).trans l0; have s1 := (hSw.1.b.cell (p := ⟨gl, k * 3 + 1, none⟩) hbl).trans l1; clear hSw); (go_simp <;> with_reducible rfl)); simp only [List.getElem_toArray, List.getElem_cons_zero, List.getElem_cons_succ, Act.put, List.setIfInBounds_toArray, List.set_cons_zero, List.set_cons_succ]) | (refine wpAnyH_take (i := 4) (v := undef) rfl (by kernel_rfl) (by kernel_rfl) (by kernel_rfl) (fun _ _ _ h => h) (Or.inr ⟨by rfl, rfl⟩) hHeld ?_; simp only [List.getElem_toArray, List.getElem_cons_zero, List.getElem_cons_succ, Act.put, List.setIfInBounds_toArray, List.set_cons_zero, List.set_cons_succ])
            first | (refine wpAnyH_take (i := 5) (v := ?_) rfl (by kernel_rfl) (by kernel_rfl) (by kernel_rfl) (fun _ _ _ h => h) (Or.inl ⟨by rfl, ?_⟩) hHeld ?_; rotate_left; (intro w hSw; (obtain ⟨m0, m1, _⟩ := hSw.2.two; have s0 := (hSw.1.b.cell (p := ⟨gl, k * 3, none⟩) hbl).trans l0; have s1 := (hSw.1.b.cell (p := ⟨gl, k * 3 + 1, none⟩) hbl).trans l1; clear hSw); (go_simp <;> with_reducible rfl)); simp only [List.getElem_toArray, List.getElem_cons_zero, List.getElem_cons_succ, Act.put, List.setIfInBounds_toArray, List.set_cons_zero, List.set_cons_succ]) | (refine wpAnyH_take (i := 5) (v := undef) rfl (by kernel_rfl) (by kernel_rfl) (by kernel_rfl) (fun _ _ _ h => h) (Or.inr ⟨by rfl, rfl⟩) hHeld ?_; simp only [List.getElem_toArray, List.getElem_cons_zero, List.getElem_cons_succ, Act.put, List.setIfInBounds_toArray, List.set_cons_zero, List.set_cons_succ])
            first | (refine wpAnyH_take (i := 6) (v := ?_) rfl (by kernel_rfl) (by kernel_rfl) (by kernel_rfl) (fun _ _ _ h => h) (Or.inl ⟨by rfl, ?_⟩) hHeld ?_; rotate_left; (intro w hSw; (obtain ⟨m0, m1, _⟩ := hSw.2.two; have s0 := (hSw.1.b.cell (p := ⟨gl, k * 3, none⟩) hbl).trans l0; have s1 := (hSw.1.b.cell (p := ⟨gl, k * 3 + 1, none⟩) hbl).trans l1; clear hSw); (go_simp <;> with_reducible rfl)); simp only [List.getElem_toArray, List.getElem_cons_zero, List.getElem_cons_succ, Act.put, List.setIfInBounds_toArray, List.set_cons_zero, List.set_cons_succ]) | (refine wpAnyH_take (i := 6) (v := undef) rfl (by kernel_rfl) (by kernel_rfl) (by kernel_rfl) (fun _ _ _ h => h) (Or.inr ⟨by rfl, rfl⟩) hHeld ?_; simp only [List.getElem_toArray, List.getElem_cons_zero, List.getElem_cons_succ, Act.put, List.setIfInBounds_toArray, List.set_cons_zero, List.set_cons_succ])
            first | (refine wpAnyH_take (i := 7) (v := ?_) rfl (by kernel_rfl) (by kernel_rfl) (by kernel_rfl) (fun _ _ _ h => h) (Or.inl ⟨by rfl, ?_⟩) hHeld ?_; rotate_left; (intro w hSw; (obtain ⟨m0, m1, _⟩ := hSw.2.two; have s0 := (hSw.1.b.cell (p := ⟨gl, k * 3, none⟩) hbl).trans l0; have s1 := (hSw.1.b.cell (p := ⟨gl, k * 3 + 1, none⟩) hbl).trans l1; clear hSw); (go_simp <;> with_reducible rfl)); simp only [List.getElem_toArray, List.getElem_cons_zero, List.getElem_cons_succ, Act.put, List.setIfInBounds_toArray, List.set_cons_zero, List.set_cons_succ]) | (refine wpAnyH_take (i := 7) (v := undef) rfl (by kernel_rfl) (by kernel_rfl) (by kernel_rfl) (fun _ _ _ h => h) (Or.inr ⟨by rfl, rfl⟩) hHeld ?_; simp only [List.getElem_toArray, List.getElem_cons_zero, List.getElem_cons_succ, Act.put, List.setIfInBounds_toArray, List.set_cons_zero, List.set_cons_succ])
            first | (refine wpAnyH_take (i := 8) (v := ?_) rfl (by kernel_rfl) (by kernel_rfl) (by kernel_rfl) (fun _ _ _ h => h) (Or.inl ⟨by rfl, ?_⟩) hHeld ?_; rotate_left; (intro w hSw; (obtain ⟨m0, m1, _⟩ := hSw.2.two; have s0 := (hSw.1.b.cell (p := ⟨gl, k * 3, none⟩) hbl).trans l0; have s1 := (hSw.1.b.cell (p := ⟨gl, k * 3 + 1, none⟩) hbl).trans l1; clear hSw); (go_simp <;> with_reducible rfl)); simp only [List.getElem_toArray, List.getElem_cons_zero, List.getElem_cons_succ, Act.put, List.setIfInBounds_toArray, List.set_cons_zero, List.set_cons_succ]) | (refine wpAnyH_take (i := 8) (v := undef) rfl (by kernel_rfl) (by kernel_rfl) (by kernel_rfl) (fun _ _ _ h => h) (Or.inr ⟨by rfl, rfl⟩) hHeld ?_; simp only [List.getElem_toArray, List.getElem_cons_zero, List.getElem_cons_succ, Act.put, List.setIfInBounds_toArray, List.set_cons_zero, List.set_cons_succ])
            first | (refine wpAnyH_take (i := 9) (v := ?_) rfl (by kernel_rfl) (by kernel_rfl) (by kernel_rfl) (fun _ _ _ h => h) (Or.inl ⟨by rfl, ?_⟩) hHeld ?_; rotate_left; (intro w hSw; (obtain ⟨m0, m1, _⟩ := hSw.2.two; have s0 := (hSw.1.b.cell (p := ⟨gl, k * 3, none⟩) hbl).trans l0; have s1 := (hSw.1.b.cell (p := ⟨gl, k * 3 + 1, none⟩) hbl).trans l1; clear hSw); (go_simp <;> with_reducible rfl)); simp only [List.getElem_toArray, List.getElem_cons_zero, List.getElem_cons_succ, Act.put, List.setIfInBounds_toArray, List.set_cons_zero, List.set_cons_succ]) | (refine wpAnyH_take (i := 9) (v := undef) rfl (by kernel_rfl) (by kernel_rfl) (by kernel_rfl) (fun _ _ _ h => h) (Or.inr ⟨by rfl, rfl⟩) hHeld ?_; simp only [List.getElem_toArray, List.getElem_cons_zero, List.getElem_cons_succ, Act.put, List.setIfInBounds_toArray, List.set_cons_zero, List.set_cons_succ])
            first | (refine wpAnyH_take (i := 10) (v := ?_) rfl (by kernel_rfl) (by kernel_rfl) (by kernel_rfl) (fun _ _ _ h => h) (Or.inl ⟨by rfl, ?_⟩) hHeld ?_; rotate_left; (intro w hSw; (obtain ⟨m0, m1, _⟩ := hSw.2.two; have s0 := (hSw.1.b.cell (p := ⟨gl, k * 3, none⟩) hbl).trans l0; have s1 := (hSw.1.b.cell (p := ⟨gl, k * 3 + 1, none⟩) hbl).trans l1; clear hSw); (go_simp <;> with_reducible rfl)); simp only [List.getElem_toArray, List.getElem_cons_zero, List.getElem_cons_succ, Act.put, List.setIfInBounds_toArray, List.set_cons_zero, List.set_cons_succ]) | (refine wpAnyH_take (i := 10) (v := undef) rfl (by kernel_rfl) (by kernel_rfl) (by kernel_rfl) (fun _ _ _ h => h) (Or.inr ⟨by rfl, rfl⟩) hHeld ?_; simp only [List.getElem_toArray, List.getElem_cons_zero, List.getElem_cons_succ, Act.put, List.setIfInBounds_toArray, List.set_cons_zero, List.set_cons_succ])
            first | (refine wpAnyH_take (i := 11) (v := ?_) rfl (by kernel_rfl) (by kernel_rfl) (by kernel_rfl) (fun _ _ _ h => h) (Or.inl ⟨by rfl, ?_⟩) hHeld ?_; rotate_left; (intro w hSw; (obtain ⟨m0, m1, _⟩ := hSw.2.two; have s0 := (hSw.1.b.cell (p := ⟨gl, k * 3, none⟩) hbl).trans l0; have s1 := (hSw.1.b.cell (p := ⟨gl, k * 3 + 1, none⟩) hbl).trans l1; clear hSw); (go_simp <;> with_reducible rfl)); simp only [List.getElem_toArray, List.getElem_cons_zero, List.getElem_cons_succ, Act.put, List.setIfInBounds_toArray, List.set_cons_zero, List.set_cons_succ]) | (refine wpAnyH_take (i := 11) (v := undef) rfl (by kernel_rfl) (by kernel_rfl) (by kernel_rfl) (fun _ _ _ h => h) (Or.inr ⟨by rfl, rfl⟩) hHeld ?_; simp only [List.getElem_toArray, List.getElem_cons_zero, List.getElem_cons_succ, Act.put, List.setIfInBounds_toArray, List.set_cons_zero, List.set_cons_succ])
            (refine wpAnyH_take (i := 12) (v := ?_) rfl (by kernel_rfl) (by kernel_rfl) (by kernel_rfl) (fun _ _ _ h => h) (Or.inl ⟨by rfl, ?_⟩) hHeld ?_; rotate_left; (intro w hSw; (obtain ⟨m0, m1, _⟩ := hSw.2.two; have s0 := (hSw.1.b.cell (p := ⟨gl, k * 3, none⟩) hbl).trans l0; have s1 := (hSw.1.b.cell (p := ⟨gl, k * 3 + 1, none⟩) hbl).trans l1; clear hSw); (go_simp <;> with_reducible rfl)); simp only [List.getElem_toArray, List.getElem_cons_zero, List.getElem_cons_succ, Act.put, List.setIfInBounds_toArray, List.set_cons_zero, List.set_cons_succ])
            (refine wpAnyH_take (i := 13) (v := ?_) rfl (by kernel_rfl) (by kernel_rfl) (by kernel_rfl) (fun _ _ _ h => h) (Or.inl ⟨by rfl, ?_⟩) hHeld ?_; rotate_left; (intro w hSw; (obtain ⟨m0, m1, _⟩ := hSw.2.two; have s0 := (hSw.1.b.cell (p := ⟨gl, k * 3, none⟩) hbl).trans l0; have s1 := (hSw.1.b.cell (p := ⟨gl, k * 3 + 1, none⟩) hbl).trans l1; clear hSw); (go_simp <;> with_reducible rfl)); simp only [List.getElem_toArray, List.getElem_cons_zero, List.getElem_cons_succ, Act.put, List.setIfInBounds_toArray, List.set_cons_zero, List.set_cons_succ])
            first | (refine wpAnyH_take (i := 14) (v := ?_) rfl (by kernel_rfl) (by kernel_rfl) (by kernel_rfl) (fun _ _ _ h => h) (Or.inl ⟨by rfl, ?_⟩) hHeld ?_; rotate_left; (intro w hSw; (obtain ⟨m0, m1, _⟩ := hSw.2.two; have s0 := (hSw.1.b.cell (p := ⟨gl, k * 3, none⟩) hbl).trans l0; have s1 := (hSw.1.b.cell (p := ⟨gl, k * 3 + 1, none⟩) hbl).trans l1; clear hSw); (go_simp <;> with_reducible rfl)); simp only [List.getElem_toArray, List.getElem_cons_zero, List.getElem_cons_succ, Act.put, List.setIfInBounds_toArray, List.set_cons_zero, List.set_cons_succ]) | (refine wpAnyH_take (i := 14) (v := undef) rfl (by kernel_rfl) (by kernel_rfl) (by kernel_rfl) (fun _ _ _ h => h) (Or.inr ⟨by rfl, rfl⟩) hHeld ?_; simp only [List.getElem_toArray, List.getElem_cons_zero, List.getElem_cons_succ, Act.put, List.setIfInBounds_toArray, List.set_cons_zero, List.set_cons_succ])
            first | (refine wpAnyH_take (i := 15) (v := ?_) rfl (by kernel_rfl) (by kernel_rfl) (by kernel_rfl) (fun _ _ _ h => h) (Or.inl ⟨by rfl, ?_⟩) hHeld ?_; rotate_left; (intro w hSw; (obtain ⟨m0, m1, _⟩ := hSw.2.two; have s0 := (hSw.1.b.cell (p := ⟨gl, k * 3, none⟩) hbl).trans l0; have s1 := (hSw.1.b.cell (p := ⟨gl, k * 3 + 1, none⟩) hbl).trans l1; clear hSw); (go_simp <;> with_reducible rfl)); simp only [List.getElem_toArray, List.getElem_cons_zero, List.getElem_cons_succ, Act.put, List.setIfInBounds_toArray, List.set_cons_zero, List.set_cons_succ]) | (refine wpAnyH_take (i := 15) (v := undef) rfl (by kernel_rfl) (by kernel_rfl) (by kernel_rfl) (fun _ _ _ h => h) (Or.inr ⟨by rfl, rfl⟩) hHeld ?_; simp only [List.getElem_toArray, List.getElem_cons_zero, List.getElem_cons_succ, Act.put, List.setIfInBounds_toArray, List.set_cons_zero, List.set_cons_succ])
            first | (refine wpAnyH_take (i := 16) (v := ?_) rfl (by kernel_rfl) (by kernel_rfl) (by kernel_rfl) (fun _ _ _ h => h) (Or.inl ⟨by rfl, ?_⟩) hHeld ?_; rotate_left; (intro w hSw; (obtain ⟨m0, m1, _⟩ := hSw.2.two; have s0 := (hSw.1.b.cell (p := ⟨gl, k * 3, none⟩) hbl).trans l0; have s1 := (hSw.1.b.cell (p := ⟨gl, k * 3 + 1, none⟩) hbl).trans l1; clear hSw); (go_simp <;> with_reducible rfl)); simp only [List.getElem_toArray, List.getElem_cons_zero, List.getElem_cons_succ, Act.put, List.setIfInBounds_toArray, List.set_cons_zero, List.set_cons_succ]) | (refine wpAnyH_take (i := 16) (v := undef) rfl (by kernel_rfl) (by kernel_rfl) (by kernel_rfl) (fun _ _ _ h => h) (Or.inr ⟨by rfl, rfl⟩) hHeld ?_; simp only [List.getElem_toArray, List.getElem_cons_zero, List.getElem_cons_succ, Act.put, List.setIfInBounds_toArray, List.set_cons_zero, List.set_cons_succ])
            first | (refine wpAnyH_take (i := 17) (v := ?_) rfl (by kernel_rfl) (by kernel_rfl) (by kernel_rfl) (fun _ _ _ h => h) (Or.inl ⟨by rfl, ?_⟩) hHeld ?_; rotate_left; (intro w hSw; (obtain ⟨m0, m1, _⟩ := hSw.2.two; have s0 := (hSw.1.b.cell (p := ⟨gl, k * 3, none⟩) hbl).trans l0; have s1 := (hSw.1.b.cell (p := ⟨gl, k * 3 + 1, none⟩) hbl).trans l1; clear hSw); (go_simp <;> with_reducible rfl)); simp only [List.getElem_toArray, List.getElem_cons_zero, List.getElem_cons_succ, Act.put, List.setIfInBounds_toArray, List.set_cons_zero, List.set_cons_succ]) | (refine wpAnyH_take (i := 17) (v := undef) rfl (by kernel_rfl) (by kernel_rfl) (by kernel_rfl) (fun _ _ _ h => h) (Or.inr ⟨by rfl, rfl⟩) hHeld ?_; simp only [List.getElem_toArray, List.getElem_cons_zero, List.getElem_cons_succ, Act.put, List.setIfInBounds_toArray, List.set_cons_zero, List.set_cons_succ])
            first | (refine wpAnyH_take (i := 18) (v := ?_) rfl (by kernel_rfl) (by kernel_rfl) (by kernel_rfl) (fun _ _ _ h => h) (Or.inl ⟨by rfl, ?_⟩) hHeld ?_; rotate_left; (intro w hSw; (obtain ⟨m0, m1, _⟩ := hSw.2.two; have s0 := (hSw.1.b.cell (p := ⟨gl, k * 3, none⟩) hbl).trans l0; have s1 := (hSw.1.b.cell (p := ⟨gl, k * 3 + 1, none⟩) hbl).trans l1; clear hSw); (go_simp <;> with_reducible rfl)); simp only [List.getElem_toArray, List.getElem_cons_zero, List.getElem_cons_succ, Act.put, List.setIfInBounds_toArray, List.set_cons_zero, List.set_cons_succ]) | (refine wpAnyH_take (i := 18) (v := undef) rfl (by kernel_rfl) (by kernel_rfl) (by kernel_rfl) (fun _ _ _ h => h) (Or.inr ⟨by rfl, rfl⟩) hHeld ?_; simp only [List.getElem_toArray, List.getElem_cons_zero, List.getElem_cons_succ, Act.put, List.setIfInBounds_toArray, List.set_cons_zero, List.set_cons_succ])
            first | (refine wpAnyH_take (i := 19) (v := ?_) rfl (by kernel_rfl) (by kernel_rfl) (by kernel_rfl) (fun _ _ _ h => h) (Or.inl ⟨by rfl, ?_⟩) hHeld ?_; rotate_left; (intro w hSw; (obtain ⟨m0, m1, _⟩ := hSw.2.two; have s0 := (hSw.1.b.cell (p := ⟨gl, k * 3, none⟩) hbl).trans l0; have s1 := (hSw.1.b.cell (p := ⟨gl, k * 3 + 1, none⟩) hbl).trans l1; clear hSw); (go_simp <;> with_reducible rfl)); simp only [List.getElem_toArray, List.getElem_cons_zero, List.getElem_cons_succ, Act.put, List.setIfInBounds_toArray, List.set_cons_zero, List.set_cons_succ]) | (refine wpAnyH_take (i := 19) (v := undef) rfl (by kernel_rfl) (by kernel_rfl) (by kernel_rfl) (fun _ _ _ h => h) (Or.inr ⟨by rfl, rfl⟩) hHeld ?_; simp only [List.getElem_toArray, List.getElem_cons_zero, List.getElem_cons_succ, Act.put, List.setIfInBounds_toArray, List.set_cons_zero, List.set_cons_succ])
            first | (refine wpAnyH_take (i := 20) (v := ?_) rfl (by kernel_rfl) (by kernel_rfl) (by kernel_rfl) (fun _ _ _ h => h) (Or.inl ⟨by rfl, ?_⟩) hHeld ?_; rotate_left; (intro w hSw; (obtain ⟨m0, m1, _⟩ := hSw.2.two; have s0 := (hSw.1.b.cell (p := ⟨gl, k * 3, none⟩) hbl).trans l0; have s1 := (hSw.1.b.cell (p := ⟨gl, k * 3 + 1, none⟩) hbl).trans l1; clear hSw); (go_simp <;> with_reducible rfl)); simp only [List.getElem_toArray, List.getElem_cons_zero, List.getElem_cons_succ, Act.put, List.setIfInBounds_toArray, List.set_cons_zero, List.set_cons_succ]) | (refine wpAnyH_take (i := 20) (v := undef) rfl (by kernel_rfl) (by kernel_rfl) (by kernel_rfl) (fun _ _ _ h => h) (Or.inr ⟨by rfl, rfl⟩) hHeld ?_; simp only [List.getElem_toArray, List.getElem_cons_zero, List.getElem_cons_succ, Act.put, List.setIfInBounds_toArray, List.set_cons_zero, List.set_cons_succ])
            first | (refine wpAnyH_take (i := 21) (v := ?_) rfl (by kernel_rfl) (by kernel_rfl) (by kernel_rfl) (fun _ _ _ h => h) (Or.inl ⟨by rfl, ?_⟩) hHeld ?_; rotate_left; (intro w hSw; (obtain ⟨m0, m1, _⟩ := hSw.2.two; have s0 := (hSw.1.b.cell (p := ⟨gl, k * 3, none⟩) hbl).trans l0; have s1 := (hSw.1.b.cell (p := ⟨gl, k * 3 + 1, none⟩) hbl).trans l1; clear hSw); (go_simp <;> with_reducible rfl)); simp only [List.getElem_toArray, List.getElem_cons_zero, List.getElem_cons_succ, Act.put, List.setIfInBounds_toArray, List.set_cons_zero, List.set_cons_succ]) | (refine wpAnyH_take (i := 21) (v := undef) rfl (by kernel_rfl) (by kernel_rfl) (by kernel_rfl) (fun _ _ _ h => h) (Or.inr ⟨by rfl, rfl⟩) hHeld ?_; simp only [List.getElem_toArray, List.getElem_cons_zero, List.getElem_cons_succ, Act.put, List.setIfInBounds_toArray, List.set_cons_zero, List.set_cons_succ])
            first | (refine wpAnyH_take (i := 22) (v := ?_) rfl (by kernel_rfl) (by kernel_rfl) (by kernel_rfl) (fun _ _ _ h => h) (Or.inl ⟨by rfl, ?_⟩) hHeld ?_; rotate_left; (intro w hSw; (obtain ⟨m0, m1, _⟩ := hSw.2.two; have s0 := (hSw.1.b.cell (p := ⟨gl, k * 3, none⟩) hbl).trans l0; have s1 := (hSw.1.b.cell (p := ⟨gl, k * 3 + 1, none⟩) hbl).trans l1; clear hSw); (go_simp <;> with_reducible rfl)); simp only [List.getElem_toArray, List.getElem_cons_zero, List.getElem_cons_succ, Act.put, List.setIfInBounds_toArray, List.set_cons_zero, List.set_cons_succ]) | (refine wpAnyH_take (i := 22) (v := undef) rfl (by kernel_rfl) (by kernel_rfl) (by kernel_rfl) (fun _ _ _ h => h) (Or.inr ⟨by rfl, rfl⟩) hHeld ?_; simp only [List.getElem_toArray, List.getElem_cons_zero, List.getElem_cons_succ, Act.put, List.setIfInBounds_toArray, List.set_cons_zero, List.set_cons_succ])
            first | (refine wpAnyH_take (i := 23) (v := ?_) rfl (by kernel_rfl) (by kernel_rfl) (by kernel_rfl) (fun _ _ _ h => h) (Or.inl ⟨by rfl, ?_⟩) hHeld ?_; rotate_left; (intro w hSw; (obtain ⟨m0, m1, _⟩ := hSw.2.two; have s0 := (hSw.1.b.cell (p := ⟨gl, k * 3, none⟩) hbl).trans l0; have s1 := (hSw.1.b.cell (p := ⟨gl, k * 3 + 1, none⟩) hbl).trans l1; clear hSw); (go_simp <;> with_reducible rfl)); simp only [List.getElem_toArray, List.getElem_cons_zero, List.getElem_cons_succ, Act.put, List.setIfInBounds_toArray, List.set_cons_zero, List.set_cons_succ]) | (refine wpAnyH_take (i := 23) (v := undef) rfl (by kernel_rfl) (by kernel_rfl) (by kernel_rfl) (fun _ _ _ h => h) (Or.inr ⟨by rfl, rfl⟩) hHeld ?_; simp only [List.getElem_toArray, List.getElem_cons_zero, List.getElem_cons_succ, Act.put, List.setIfInBounds_toArray, List.set_cons_zero, List.set_cons_succ])
            first | (refine wpAnyH_take (i := 24) (v := ?_) rfl (by kernel_rfl) (by kernel_rfl) (by kernel_rfl) (fun _ _ _ h => h) (Or.inl ⟨by rfl, ?_⟩) hHeld ?_; rotate_left; (intro w hSw; (obtain ⟨m0, m1, _⟩ := hSw.2.two; have s0 := (hSw.1.b.cell (p := ⟨gl, k * 3, none⟩) hbl).trans l0; have s1 := (hSw.1.b.cell (p := ⟨gl, k * 3 + 1, none⟩) hbl).trans l1; clear hSw); (go_simp <;> with_reducible rfl)); simp only [List.getElem_toArray, List.getElem_cons_zero, List.getElem_cons_succ, Act.put, List.setIfInBounds_toArray, List.set_cons_zero, List.set_cons_succ]) | (refine wpAnyH_take (i := 24) (v := undef) rfl (by kernel_rfl) (by kernel_rfl) (by kernel_rfl) (fun _ _ _ h => h) (Or.inr ⟨by rfl, rfl⟩) hHeld ?_; simp only [List.getElem_toArray, List.getElem_cons_zero, List.getElem_cons_succ, Act.put, List.setIfInBounds_toArray, List.set_cons_zero, List.set_cons_succ])
            first | (refine wpAnyH_take (i := 25) (v := ?_) rfl (by kernel_rfl) (by kernel_rfl) (by kernel_rfl) (fun _ _ _ h => h) (Or.inl ⟨by rfl, ?_⟩) hHeld ?_; rotate_left; (intro w hSw; (obtain ⟨m0, m1, _⟩ := hSw.2.two; have s0 := (hSw.1.b.cell (p := ⟨gl, k * 3, none⟩) hbl).trans l0; have s1 := (hSw.1.b.cell (p := ⟨gl, k * 3 + 1, none⟩) hbl).trans l1; clear hSw); (go_simp <;> with_reducible rfl)); simp only [List.getElem_toArray, List.getElem_cons_zero, List.getElem_cons_succ, Act.put, List.setIfInBounds_toArray, List.set_cons_zero, List.set_cons_succ]) | (refine wpAnyH_take (i := 25) (v := undef) rfl (by kernel_rfl) (by kernel_rfl) (by kernel_rfl) (fun _ _ _ h => h) (Or.inr ⟨by rfl, rfl⟩) hHeld ?_; simp only [List.getElem_toArray, List.getElem_cons_zero, List.getElem_cons_succ, Act.put, List.setIfInBounds_toArray, List.set_cons_zero, List.set_cons_succ])
            first | (refine wpAnyH_take (i := 26) (v := ?_) rfl (by kernel_rfl) (by kernel_rfl) (by kernel_rfl) (fun _ _ _ h => h) (Or.inl ⟨by rfl, ?_⟩) hHeld ?_; rotate_left; (intro w hSw; (obtain ⟨m0, m1, _⟩ := hSw.2.two; have s0 := (hSw.1.b.cell (p := ⟨gl, k * 3, none⟩) hbl).trans l0; have s1 := (hSw.1.b.cell (p := ⟨gl, k * 3 + 1, none⟩) hbl).trans l1; clear hSw); (go_simp <;> with_reducible rfl)); simp only [List.getElem_toArray, List.getElem_cons_zero, List.getElem_cons_succ, Act.put, List.setIfInBounds_toArray, List.set_cons_zero, List.set_cons_succ]) | (refine wpAnyH_take (i := 26) (v := undef) rfl (by kernel_rfl) (by kernel_rfl) (by kernel_rfl) (fun _ _ _ h => h) (Or.inr ⟨by rfl, rfl⟩) hHeld ?_; simp only [List.getElem_toArray, List.getElem_cons_zero, List.getElem_cons_succ, Act.put, List.setIfInBounds_toArray, List.set_cons_zero, List.set_cons_succ])
            first | (refine wpAnyH_take (i := 27) (v := ?_) rfl (by kernel_rfl) (by kernel_rfl) (by kernel_rfl) (fun _ _ _ h => h) (Or.inl ⟨by rfl, ?_⟩) hHeld ?_; rotate_left; (intro w hSw; (obtain ⟨m0, m1, _⟩ := hSw.2.two; have s0 := (hSw.1.b.cell (p := ⟨gl, k * 3, none⟩) hbl).trans l0; have s1 := (hSw.1.b.cell (p := ⟨gl, k * 3 + 1, none⟩) hbl).trans l1; clear hSw); (go_simp <;> with_reducible rfl)); simp only [List.getElem_toArray, List.getElem_cons_zero, List.getElem_cons_succ, Act.put, List.setIfInBounds_toArray, List.set_cons_zero, List.set_cons_succ]) | (refine wpAnyH_take (i := 27) (v := undef) rfl (by kernel_rfl) (by kernel_rfl) (by kernel_rfl) (fun _ _ _ h => h) (Or.inr ⟨by rfl, rfl⟩) hHeld ?_; simp only [List.getElem_toArray, List.getElem_cons_zero, List.getElem_cons_succ, Act.put, List.setIfInBounds_toArray, List.set_cons_zero, List.set_cons_succ])
            (refine wpAnyH_take (i := 28) (v := ?_) rfl (by kernel_rfl) (by kernel_rfl) (by kernel_rfl) (fun _ _ _ h => h) (Or.inl ⟨by rfl, ?_⟩) hHeld ?_; rotate_left; (intro w hSw; (obtain ⟨m0, m1, _⟩ := hSw.2.two; have s0 := (hSw.1.b.cell (p := ⟨gl, k * 3, none⟩) hbl).trans l0; have s1 := (hSw.1.b.cell (p := ⟨gl, k * 3 + 1, none⟩) hbl).trans l1; clear hSw); (go_simp <;> with_reducible rfl)); simp only [List.getElem_toArray, List.getElem_cons_zero, List.getElem_cons_succ, Act.put, List.setIfInBounds_toArray, List.set_cons_zero, List.set_cons_succ])
            refine wpAnyH_done (by kernel_rfl) ?_ _
            refine NoPanic.normal ?_
            have HL2 := hid hHeld.1
            clear hHeld hH q1 q2 w1' w2' w3'
            go_wp2_with fail
            generalize wc.drew = wd at *
            obtain ⟨t0, t1, t2, t3, t4, f0, f1, f2, f3, f4⟩ := HL2.out.k.five
            have hLb : Below w6.heap.size w6 wd.drew := drewB HL2.out.b
            refine wp_region_noPanic ?_
            refine wp_region_held_drew (S := fun W => Below w6.heap.size w6 W) (by kernel_rfl) (by first | exact hP9 | exact hB9 | exact hLb) (fun hHeld => ?_)
            (refine wpAnyH_take (i := 0) (v := ?_) rfl (by kernel_rfl) (by kernel_rfl) (by kernel_rfl) (fun _ _ _ h => h) (Or.inl ⟨by rfl, ?_⟩) hHeld ?_; rotate_left; (intro w hSw; (have s0 := (hSw.cell (p := ⟨gl, k * 3, none⟩) hbl).trans l0; have s1 := (hSw.cell (p := ⟨gl, k * 3 + 1, none⟩) hbl).trans l1; have s2 := (hSw.cell (p := ⟨gl, k * 3 + 2, none⟩) hbl).trans l2; clear hSw); (go_simp <;> with_reducible rfl)); simp only [List.getElem_toArray, List.getElem_cons_zero, Act.put, List.setIfInBounds_toArray, List.set_cons_zero, List.set_cons_succ])
            (refine wpAnyH_take (i := 2) (v := ?_) rfl (by kernel_rfl) (by kernel_rfl) (by kernel_rfl) (fun _ _ _ h => h) (Or.inl ⟨by rfl, ?_⟩) hHeld ?_; rotate_left; (intro w hSw; (have s0 := (hSw.cell (p := ⟨gl, k * 3, none⟩) hbl).trans l0; have s1 := (hSw.cell (p := ⟨gl, k * 3 + 1, none⟩) hbl).trans l1; have s2 := (hSw.cell (p := ⟨gl, k * 3 + 2, none⟩) hbl).trans l2; clear hSw); (go_simp <;> with_reducible rfl)); simp only [List.getElem_toArray, List.getElem_cons_zero, List.getElem_cons_succ, Act.put, List.setIfInBounds_toArray, List.set_cons_zero, List.set_cons_succ])
            (refine wpAnyH_take (i := 3) (v := ?_) rfl (by kernel_rfl) (by kernel_rfl) (by kernel_rfl) (fun _ _ _ h => h) (Or.inl ⟨by rfl, ?_⟩) hHeld ?_; rotate_left; (intro w hSw; (have s0 := (hSw.cell (p := ⟨gl, k * 3, none⟩) hbl).trans l0; have s1 := (hSw.cell (p := ⟨gl, k * 3 + 1, none⟩) hbl).trans l1; have s2 := (hSw.cell (p := ⟨gl, k * 3 + 2, none⟩) hbl).trans l2; clear hSw); (go_simp <;> with_reducible rfl)); simp only [List.getElem_toArray, List.getElem_cons_zero, List.getElem_cons_succ, Act.put, List.setIfInBounds_toArray, List.set_cons_zero, List.set_cons_succ])
            (refine wpAnyH_take (i := 4) (v := ?_) rfl (by kernel_rfl) (by kernel_rfl) (by kernel_rfl) (fun _ _ _ h => h) (Or.inl ⟨by rfl, ?_⟩) hHeld ?_; rotate_left; (intro w hSw; (have s0 := (hSw.cell (p := ⟨gl, k * 3, none⟩) hbl).trans l0; have s1 := (hSw.cell (p := ⟨gl, k * 3 + 1, none⟩) hbl).trans l1; have s2 := (hSw.cell (p := ⟨gl, k * 3 + 2, none⟩) hbl).trans l2; clear hSw); (go_simp <;> with_reducible rfl)); simp only [List.getElem_toArray, List.getElem_cons_zero, List.getElem_cons_succ, Act.put, List.setIfInBounds_toArray, List.set_cons_zero, List.set_cons_succ])
            (refine wpAnyH_take (i := 5) (v := ?_) rfl (by kernel_rfl) (by kernel_rfl) (by kernel_rfl) (fun _ _ _ h => h) (Or.inl ⟨by rfl, ?_⟩) hHeld ?_; rotate_left; (intro w hSw; (have s0 := (hSw.cell (p := ⟨gl, k * 3, none⟩) hbl).trans l0; have s1 := (hSw.cell (p := ⟨gl, k * 3 + 1, none⟩) hbl).trans l1; have s2 := (hSw.cell (p := ⟨gl, k * 3 + 2, none⟩) hbl).trans l2; clear hSw); (go_simp <;> with_reducible rfl)); simp only [List.getElem_toArray, List.getElem_cons_zero, List.getElem_cons_succ, Act.put, List.setIfInBounds_toArray, List.set_cons_zero, List.set_cons_succ])
            refine wpAnyH_ready (rs := [1]) (by kernel_rfl) (by simp) ?_
            refine (AllReadyH.cons rfl (fun K hK => ?_) AllReadyH.nil)
            go_simp
            skip
            refine hK.out _ _ (by first | exact hP9 | exact hB9 | exact hLb) (fun hHeld => ?_)
            clear hK K
            try simp only [List.getElem_toArray, List.getElem_cons_zero, List.getElem_cons_succ, Act.put, List.setIfInBounds_toArray, List.set_cons_zero, List.set_cons_succ]
            refine wpAnyH_ready (rs := [6]) (by kernel_rfl) (by simp) ?_
            refine (AllReadyH.cons rfl (fun K hK => ?_) AllReadyH.nil)
            go_simp
            (refine (HTk.out _ _ HL2.out.drew.o.sl).mono ?_; rintro e w9 ⟨v9, rfl, ho9, hb9⟩; dsimp only at ho9; obtain ⟨a9, c9, rfl, _⟩ := ho9.sl; have hR9 := HL2.out.drew.step (d' := ⟨xs2, at2, rst2, rng2⟩) hb9 ho9 (Nat.le_refl _); dsimp only at hR9; have hP9 := hR9.b; have hB9 := bthen hLb hb9; obtain ⟨y0, y1, y2, y3, y4, x0, x1, x2, x3, x4⟩ := (HL2.out.drew.k.later hb9).five)
            refine hK.out _ _ (by first | exact hP9 | exact hB9 | exact hLb) (fun hHeld => ?_)
            clear hK K
            try dsimp only
            refine wpAnyH_ready (rs := [7]) (by kernel_rfl) (by simp) ?_
            refine (AllReadyH.cons rfl (fun K hK => ?_) AllReadyH.nil)
            go_simp
            skip
            refine hK.out _ _ (by first | exact hP9 | exact hB9 | exact hLb) (fun hHeld => ?_)
            clear hK K
            try simp only [List.getElem_toArray, List.getElem_cons_zero, List.getElem_cons_succ, Act.put, List.setIfInBounds_toArray, List.set_cons_zero, List.set_cons_succ]
            refine wpAnyH_done (by kernel_rfl) ?_ _
            refine NoPanic.normal ?_
            have HR9 := hid hR9
            clear hR9 hP9 hB9 ho9 hb9 y0 y1 y2 y3 y4 x0 x1 x2 x3 x4 hHeld
            clear HTk hLb t0 t1 t2 t3 t4 f0 f1 f2 f3 f4 HL2
            generalize ((((w9.setCell ⟨w6.heap.size, 0, none⟩ (.int .i64 0)).setCell ⟨w6.heap.size, 1, none⟩ (.slice a9 xs2.length c9)).setCell ⟨w6.heap.size, 2, none⟩ (.int .i64 at2)).setCell ⟨w6.heap.size, 3, none⟩ (.int .i64 rst2)).setCell ⟨w6.heap.size, 4, none⟩ (.int .i64 rng2) = w10 at *
            obtain ⟨t0, t1, t2, t3, t4, _⟩ := HR9.out.k.five
            dsimp only at t0 t1 t2 t3 t4
            go_wp2_with fail
            refine (HDF.out _ _ _).mono ?_
            rintro e w11 ⟨rfl, hb11⟩
            have HR11 := hid (HR9.out.later hb11)
            clear hb11 HR9 HDF t0 t1 t2 t3 t4
            go_wp2
            go_roundw
            case rel => exact ⟨k + 1, _, by go_num, by omega, (by rw [Hd2.out]; exact HR11.out)⟩
            case measure => simp [intOf]; omega
        · obtain rfl : k = ls.length := by omega
          have hlast : encL (sns ls) = [] ∨ (encL (sns ls)).getD ((encL (sns ls)).length - 1) 0 ≠ 0 := trim_last _
          have hq := HK6.out.q.later hR.out.b
          have e1 := (hR.out.b.cell (p := ⟨B, 1, none⟩) HB6.out).trans c1
          have HL := hid (bthen HK6.out.l hR.out.b)
          clear hR HK6 Hd0 Hok c0 c1
          generalize encL (sns ls) = es at *
          rcases hlast with h0 | h0
          · subst h0
            simp only [List.length_nil] at *
            go_wp2
            go_ret
            exact ⟨rfl, HL.out⟩
          · have hne : es ≠ [] := by intro e; rw [e] at h0; simp at h0
            obtain ⟨a', cap', hv, hc⟩ := hq
            cases hv
            obtain ⟨b', off, rfl, hbl, hcell⟩ := hc hne
            have hpos : 0 < es.length := by cases es with | nil => exact absurd rfl hne | cons _ _ => simp
            have hl := hcell (es.length - 1) (by omega)
            clear hc hcell hne
            generalize es.length = n at *
            obtain ⟨m, rfl⟩ : ∃ m, n = m + 1 := ⟨n - 1, by omega⟩
            rw [Nat.add_sub_cancel] at hl h0
            have h0' : (es.getD m 0 == 0) = false := by simpa using h0
            have hi : ((m + 1 : Nat) : Int) - 1 = (m : Int) := by omega
            generalize es.getD m 0 = x at *
            have H0 := hid h0
            have h1' : (x != 0) = true := by simpa using h0
            clear h0
            go_wp2
            go_ret
            refine ⟨?_, HL.out⟩
            first | rfl | simp [H0.out] | (simp; exact H0.out)
end Go.Proofs.YtdmaeipiikknnaaDoor.RngW
