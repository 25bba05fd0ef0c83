/- The walk through the law FnLaps, for a program that answers by the common answers. Condition: the program's own contracts, wherever nothing that was there before has turned. -/
import Derived.Test.YtgnbailcibhenaaDoorDrwQ
import Derived.Test.YtgnbailcibhenaaDoorExFd
import Derived.Test.YtgnbailcibhenaaDoorGa
import Derived.Deep.RegionHeld3
import Derived.Deep.CutBlock
import Derived.Deep.DeepCutAuto
namespace Go.Proofs.YtgnbailcibhenaaDoor.LpsW
open Go.ChangeShapes Go.WideShapes Go.ChangeAt Go.RowKit Go.Proofs.YtgnbailcibhenaaDoor.Num Go.Proofs.YtgnbailcibhenaaDoor.Sli Go.Proofs.YtgnbailcibhenaaDoor.App Go.Proofs.YtgnbailcibhenaaDoor.Samp Go.Proofs.YtgnbailcibhenaaDoor.SampF Go.Proofs.YtgnbailcibhenaaDoor.Blk Go.Proofs.YtgnbailcibhenaaDoor.HalM Go.Proofs.YtgnbailcibhenaaDoor.LapM Go.Proofs.YtgnbailcibhenaaDoor.LapN Go.Proofs.YtgnbailcibhenaaDoor.IntL Go.Proofs.YtgnbailcibhenaaDoor.IntA Go.Proofs.YtgnbailcibhenaaDoor.OwsG Go.Proofs.YtgnbailcibhenaaDoor.LapS Go.Proofs.YtgnbailcibhenaaDoor.LapW Go.Proofs.YtgnbailcibhenaaDoor.ExFd Go.Proofs.YtgnbailcibhenaaDoor.DrwO Go.Proofs.YtgnbailcibhenaaDoor.DrwQ

theorem own_far {base n g size : Nat} {e t : TypeId} {w w' : World} {v : Value} {xs : List Value} {cur : Array Value} (h : w.ownsRow base e size v n xs) (hB : w.heap[g]? = some (.cells cur t (0, 0))) (hne : t ≠ e) (hg : w.grownBy w' (some g)) : w'.ownsRow base e size v n xs := by
  rcases h.2 with ⟨rfl, _⟩ | ⟨b, cap, cu, rfl, _, hb, _⟩
  · exact h.kept hg (Or.inl rfl)
  · refine h.kept hg (Or.inr ?_)
    intro e1
    have e2 : b = g := by simpa [Value.ownBlock] using e1
    subst e2
    rw [hB] at hb
    cases hb
    exact hne rfl
/-- Blocks of two types are two. -/
theorem blk_ne {W : World} {b b' : Nat} {A B : Array Value} {t u : TypeId} (h : Blk W b A t) (k : Blk W b' B u) (hne : t ≠ u) : b ≠ b' := by
  rintro rfl
  have : some (Obj.cells A t (0, 0)) = some (Obj.cells B u (0, 0)) := h.symm.trans k
  simp at this
  exact hne this.2
/-- No step. -/
def st0 : St := (.slice none 0 0, [], [])
theorem fl_get : ∀ (sts : List St), (∀ s ∈ sts, s.2.1.length = 12) → ∀ k, k < sts.length → (fl sts)[k * 13]? = some (sts.getD k st0).1
  | [], _, k, hk => by simp at hk
  | s :: r, h, 0, _ => by simp [fl]
  | s :: r, h, k + 1, hk => by
    have hs := h s (List.mem_cons_self ..)
    have ih := fl_get r (fun t ht => h t (List.mem_cons_of_mem _ ht)) k (by simpa using hk)
    have e : fl (s :: r) = (s.1 :: s.2.1.map (Value.int .i64)) ++ fl r := by simp [fl]
    have hl : (s.1 :: s.2.1.map (Value.int .i64)).length = 13 := by simp [hs]
    rw [e, List.getElem?_append_right (by rw [hl]; omega), hl, show (k + 1) * 13 - 13 = k * 13 by omega, ih]
    simp
/-- The frames: two of noughts ahead. -/
def frs (n : Nat) (sts : List St) (k : Nat) : List Int := if k < 2 then List.replicate n 0 else (sts.getD (k - 2) st0).2.2
theorem frs_lo {n k : Nat} {sts : List St} (h : k < 2) : frs n sts k = List.replicate n 0 := if_pos h
theorem frs_hi (n k : Nat) (sts : List St) : frs n sts (k + 2) = (sts.getD k st0).2.2 := by
  unfold frs; rw [if_neg (by omega), Nat.add_sub_cancel]
/-- What the rounds keep: both boxes, the lists, the steps. -/
structure LW (w : World) (n Lb Yb gl cl : Nat) (sts : List St) (vh vr vd vt : Value) (half rest head tail : List Int) (W : World) : Prop where
  l : Blk W Lb #[.int .i64 0, .int .i64 (n : Int), vh, vr] 31
  y : Blk W Yb #[.int .i64 0, .int .i64 (n : Int), vd, vt] 36
  h : OwI w.heap.size W vh half
  r : OwI w.heap.size W vr rest
  d : OwI w.heap.size W vd head
  t : OwI w.heap.size W vt tail
  o : W.ownsRow w.heap.size 46 13 (.slice (some ⟨gl, 0, none⟩) sts.length cl) sts.length (fl sts)
  f : FrO w.heap.size n W sts
  b : Below w.heap.size w W
  lb : w.heap.size ≤ Lb
  yb : w.heap.size ≤ Yb
  ne : Lb ≠ Yb
section
variable {w W W' : World} {n Lb Yb gl cl : Nat} {sts : List St} {vh vr vd vt vh' vr' : Value} {half rest head tail half' rest' : List Int}
theorem own_later {base n size : Nat} {e : TypeId} {w w' : World} {v : Value} {xs : List Value} (h : w.ownsRow base e size v n xs) (hb : Below w.heap.size w w') : w'.ownsRow base e size v n xs :=
  h.kept (row := none) ⟨hb.os, hb.tape, hb.output, hb.size, fun j hj _ => hb.block j hj⟩ (by cases v.ownBlock <;> simp)
theorem fro_later {base n : Nat} (h : FrO base n W sts) (hb : Below W.heap.size W W') : FrO base n W' sts := fun s hs => ⟨(h s hs).1, (h s hs).2.1.later hb, (h s hs).2.2⟩
theorem LW.later (h : LW w n Lb Yb gl cl sts vh vr vd vt half rest head tail W) (hb : Below W.heap.size W W') : LW w n Lb Yb gl cl sts vh vr vd vt half rest head tail W' :=
  ⟨h.l.later hb, h.y.later hb, h.h.later hb, h.r.later hb, h.d.later hb, h.t.later hb, own_later h.o hb, fro_later h.f hb, bthen h.b hb, h.lb, h.yb, h.ne⟩
/-- Another lap. -/
theorem LW.newL (h : LW w n Lb Yb gl cl sts vh vr vd vt half rest head tail W) (q1 : OwI w.heap.size W vh' half') (q2 : OwI w.heap.size W vr' rest') :
    LW w n Lb Yb gl cl sts vh' vr' vd vt half' rest' head tail (((W.setCell ⟨Lb, 1, none⟩ (.int .i64 (n : Int))).setCell ⟨Lb, 2, none⟩ vh').setCell ⟨Lb, 3, none⟩ vr') := by
  have hg : W.grownBy (((W.setCell ⟨Lb, 1, none⟩ (.int .i64 (n : Int))).setCell ⟨Lb, 2, none⟩ vh').setCell ⟨Lb, 3, none⟩ vr') (some Lb) := grown_same (grown_same (grown_set W Lb 1 _) (grown_set _ Lb 2 _)) (grown_set _ Lb 3 _)
  have hB := h.l
  have hne := h.ne
  exact ⟨((h.l.set 1 _).set 2 _).set 3 _, h.y.kept hg (by simp; omega), ow_far q1 hB (by decide) hg, ow_far q2 hB (by decide) hg, ow_far h.d hB (by decide) hg, ow_far h.t hB (by decide) hg, own_far h.o hB (by decide) hg, h.f.far hB (by decide) hg, below_cell (below_cell (below_cell h.b h.lb _ _) h.lb _ _) h.lb _ _, h.lb, h.yb, h.ne⟩
/-- Another synth. -/
theorem LW.newY (h : LW w n Lb Yb gl cl sts vh vr vd vt half rest head tail W) (q1 : OwI w.heap.size W vh' half') (q2 : OwI w.heap.size W vr' rest') :
    LW w n Lb Yb gl cl sts vh vr vh' vr' half rest half' rest' (((W.setCell ⟨Yb, 1, none⟩ (.int .i64 (n : Int))).setCell ⟨Yb, 2, none⟩ vh').setCell ⟨Yb, 3, none⟩ vr') := by
  have hg : W.grownBy (((W.setCell ⟨Yb, 1, none⟩ (.int .i64 (n : Int))).setCell ⟨Yb, 2, none⟩ vh').setCell ⟨Yb, 3, none⟩ vr') (some Yb) := grown_same (grown_same (grown_set W Yb 1 _) (grown_set _ Yb 2 _)) (grown_set _ Yb 3 _)
  have hB := h.y
  have hne := h.ne
  exact ⟨h.l.kept hg (by simp; omega), ((h.y.set 1 _).set 2 _).set 3 _, ow_far h.h hB (by decide) hg, ow_far h.r hB (by decide) hg, ow_far q1 hB (by decide) hg, ow_far q2 hB (by decide) hg, own_far h.o hB (by decide) hg, h.f.far hB (by decide) hg, below_cell (below_cell (below_cell h.b h.yb _ _) h.yb _ _) h.yb _ _, h.lb, h.yb, h.ne⟩
/-- Both. -/
theorem LW.new2 (h : LW w n Lb Yb gl cl sts vh vr vd vt half rest head tail W) {vd' vt' : Value} {head' tail' : List Int} (q1 : OwI w.heap.size W vh' half') (q2 : OwI w.heap.size W vr' rest') (q3 : OwI w.heap.size W vd' head') (q4 : OwI w.heap.size W vt' tail') :
    LW w n Lb Yb gl cl sts vh' vr' vd' vt' half' rest' head' tail' ((((((W.setCell ⟨Lb, 1, none⟩ (.int .i64 (n : Int))).setCell ⟨Lb, 2, none⟩ vh').setCell ⟨Lb, 3, none⟩ vr').setCell ⟨Yb, 1, none⟩ (.int .i64 (n : Int))).setCell ⟨Yb, 2, none⟩ vd').setCell ⟨Yb, 3, none⟩ vt') := by
  have hg : W.grownBy (((W.setCell ⟨Lb, 1, none⟩ (.int .i64 (n : Int))).setCell ⟨Lb, 2, none⟩ vh').setCell ⟨Lb, 3, none⟩ vr') (some Lb) := grown_same (grown_same (grown_set W Lb 1 _) (grown_set _ Lb 2 _)) (grown_set _ Lb 3 _)
  exact (h.newL q1 q2).newY (ow_far q3 h.l (by decide) hg) (ow_far q4 h.l (by decide) hg)
/-- A step's frame. -/
theorem LW.step (h : LW w n Lb Yb gl cl sts vh vr vd vt half rest head tail W) {k : Nat} (hk : k < sts.length) :
    W.cell? ⟨gl, k * 13, none⟩ = some (sts.getD k st0).1 ∧ (∃ gf cf, (sts.getD k st0).1 = .slice (some ⟨gf, 0, none⟩) n cf) ∧ OwI w.heap.size W (sts.getD k st0).1 (sts.getD k st0).2.2 ∧ (sts.getD k st0).2.2.length = n ∧ smL (sts.getD k st0).2.2 := by
  have hmem : sts.getD k st0 ∈ sts := by
    rw [List.getD_eq_getElem?_getD, List.getElem?_eq_getElem hk, Option.getD_some]; exact List.getElem_mem hk
  obtain ⟨h1, h2, h3, h4, _⟩ := h.f _ hmem
  refine ⟨?_, h1, h2, h3, smL_all.1 ?_⟩
  · have := h.o.cells (g := gl) rfl (k * 13) _ (fl_get sts (fun s hs => (h.f s hs).2.2.2.2) k hk)
    rwa [Addr.add_lit, Nat.zero_add] at this
  · rw [List.all_eq_true]
    intro x hx
    exact inB_yes (h4 x hx).1 (h4 x hx).2
end
set_option maxRecDepth 100000 in
set_option maxHeartbeats 8000000 in
theorem fnLaps_calls (a : Option Addr) (cap : Nat) (bs : List Int) (w : World) (hsl : Sl .u8 w (.slice a bs.length cap) bs) (hbd : ∀ x ∈ bs, 0 ≤ x ∧ x ≤ 255)
    (HF0 : ∀ (s : Int) (v1 v2 v3 : Value) (x1 x2 x3 : List Int) (W : World), Below w.heap.size w W → Sl .i64 W v1 x1 → Sl .i64 W v2 x2 → Sl .i64 W v3 x3 → Fits v1 → Fits v2 → Fits v3 → x1.length ≤ 1048576 → x2.length ≤ 1048576 → x3.length ≤ 1048576 → Calls Tryd.prog 13 #[.agg #[.int .i64 s, v1, v2], v3] W fun e w' => ∃ u t k, e = .returned (.agg #[.int .i64 (fdC s x1 x2 x3), .int .i64 (fdS s x1 x2 x3), u, t, k]) ∧ OWS W.heap.size w' [(u, fdU s x1 x2 x3), (t, fdV s x1 x2 x3), (k, fdW s x1 x2 x3)] ∧ Below W.heap.size W w')
    (HP0 : ∀ (s : Int) (v1 v2 v3 : Value) (x1 x2 x3 : List Int) (W : World), Below w.heap.size w W → Sl .i64 W v1 x1 → Sl .i64 W v2 x2 → Sl .i64 W v3 x3 → Fits v1 → Fits v2 → Fits v3 → x1.length ≤ 1048576 → x2.length ≤ 1048576 → x3.length ≤ 1048576 → Calls Tryd.prog 14 #[.agg #[.int .i64 s, v1, v2], v3] W fun e w' => ∃ u t k, e = .returned (.agg #[.int .i64 (plC s x1 x2 x3), .int .i64 (plS s x1 x2 x3), u, t, k]) ∧ OWS W.heap.size w' [(u, plU s x1 x2 x3), (t, plV s x1 x2 x3), (k, plW s x1 x2 x3)] ∧ Below W.heap.size W w')
    (HL0 : ∀ (s : Int) (v1 v2 : Value) (x1 x2 : List Int) (W : World), Below w.heap.size w W → Sl .i64 W v1 x1 → Sl .i64 W v2 x2 → x1.length ≤ 1048576 → x2.length ≤ 1048576 → Calls Tryd.prog 11 #[.agg #[.int .i64 s, v1, v2]] W fun e w' => e = .returned (.int .i64 (lfC s x1 x2)) ∧ Below W.heap.size W w')
    (HY0 : ∀ (s : Int) (v1 v2 : Value) (x1 x2 : List Int) (W : World), Below w.heap.size w W → Sl .i64 W v1 x1 → Sl .i64 W v2 x2 → x1.length ≤ 1048576 → x2.length ≤ 1048576 → Calls Tryd.prog 12 #[.agg #[.int .i64 s, v1, v2]] W fun e w' => e = .returned (.int .i64 (syC s x1 x2)) ∧ Below W.heap.size W w')
    (HN0 : ∀ (s : Int) (W : World), Below w.heap.size w W → Calls Tryd.prog 9 #[.int .i64 s] W fun e w' => ∃ u t, e = .returned (.agg #[.int .i64 (szF s), .int .i64 (nlS s), u, t]) ∧ TW W.heap.size u t (nlL s) (nlL s) w' ∧ Below W.heap.size W w')
    (HM0 : ∀ (s : Int) (W : World), Below w.heap.size w W → Calls Tryd.prog 10 #[.int .i64 s] W fun e w' => ∃ u t, e = .returned (.agg #[.int .i64 (szF s), .int .i64 (nlS s), u, t]) ∧ TW W.heap.size u t (nlL s) (nlL s) w' ∧ Below W.heap.size W w') :
    Calls Tryd.prog 3 #[.slice a bs.length cap] w fun e w' => e = .returned (.bool true) ∧ Below w.heap.size w w' := by
  by_cases hbig : 1048576 < bs.length
  · have hb' : (1048576 : Int) < bs.length := by omega
    clear hsl hbd HF0 HP0 HL0 HY0 HN0 HM0
    go_enter Tryd.func3, Tryd.ntmps3
    go_wp2
    go_ret
    exact ⟨rfl, Below.refl _ _⟩
  · have hb' : (bs.length : Int) ≤ 1048576 := by omega
    have HFd := hid HF0
    have HPl := hid HP0
    have HLf := hid HL0
    have HYf := hid HY0
    have HNl := hid HN0
    have HNy := hid HM0
    have H1 := hid (drawStory_calls a cap bs w hsl hbd (by omega))
    clear hsl hbd HF0 HP0 HL0 HY0 HN0 HM0
    go_enter Tryd.func3, Tryd.ntmps3
    go_wp2_with (first | (go_at_call 7; go_in) | fail)
    refine H1.out.mono ?_
    rintro e w1 ⟨b, r, wt, n, gl, cl, sts, rfl, hz, hl16, ho1, hf1, hb1⟩
    have Hz := hid hz
    have HO1 := hid ho1
    have HF1 := hid hf1
    have HB1 := hid hb1
    have HNl2 := hid (fun W hb => HNl.out (n : Int) W hb)
    have HNy2 := hid (fun W hb => HNy.out (n : Int) W hb)
    rw [hz, show nlS (n : Int) = n from if_pos hz, show nlL (n : Int) = List.replicate (hN (n : Int)) 0 from if_pos hz] at HNl2 HNy2
    have HI0 := hid (LI.new hz)
    have hm8 : hN (n : Int) ≤ 8 := by obtain ⟨_, _, _, _, h, _⟩ := LapM.sz_nat hz; exact h
    have HZl : Hid ((List.replicate (hN (n : Int)) (0 : Int)).length ≤ 1048576) := by show _ ≤ _; rw [List.length_replicate]; omega
    clear ho1 hf1 hb1 hz H1 HNl HNy
    go_wp2_with fail
    refine (HNl2.out _ HB1.out).mono ?_
    rintro e w2 ⟨u, t, rfl, ht2, hb2⟩
    obtain ⟨a1, c1, rfl, -⟩ := ht2.s.sl
    obtain ⟨a2, c2, rfl, -⟩ := ht2.d.sl
    generalize hzr : List.replicate (hN (n : Int)) (0 : Int) = Z at *
    clear hzr
    have hba := bmore hb2 (.cells #[.int .i64 0, .int .i64 (n : Int), .slice a1 Z.length c1, .slice a2 Z.length c2] 31)
    have hw1 := HB1.out.size
    have HLb := hid (Blk.new w2 #[.int .i64 0, .int .i64 (n : Int), .slice a1 Z.length c1, .slice a2 Z.length c2] 31)
    have HW2 := hid ((ht2.mono hw1).later (bmore (Below.refl _ _) (.cells #[.int .i64 0, .int .i64 (n : Int), .slice a1 Z.length c1, .slice a2 Z.length c2] 31)))
    have HO2 := hid (own_later HO1.out hba)
    have HF2 := hid (fro_later HF1.out hba)
    have HB2 := hid (bthen HB1.out hba)
    have hw2 : w.heap.size ≤ w2.heap.size := Nat.le_trans hw1 hb2.size
    clear ht2 hb2 hba hw1 HO1 HF1 HB1 HNl2
    go_wp2_with fail
    generalize w2.heap.size = Lb at *
    generalize w2.alloc (.cells #[.int .i64 0, .int .i64 (n : Int), .slice a1 Z.length c1, .slice a2 Z.length c2] 31) = w3 at *
    refine (HNy2.out _ HB2.out).mono ?_
    rintro e w4 ⟨u, t, rfl, ht4, hb4⟩
    obtain ⟨a3, c3, rfl, -⟩ := ht4.s.sl
    obtain ⟨a4, c4, rfl, -⟩ := ht4.d.sl
    have hba := bmore hb4 (.cells #[.int .i64 0, .int .i64 (n : Int), .slice a3 Z.length c3, .slice a4 Z.length c4] 36)
    have hw3 := HB2.out.size
    have hLb := HLb.out.lt
    have HK : Hid (LW w n Lb w4.heap.size gl cl sts (.slice a1 Z.length c1) (.slice a2 Z.length c2) (.slice a3 Z.length c3) (.slice a4 Z.length c4) Z Z Z Z (w4.alloc (.cells #[.int .i64 0, .int .i64 (n : Int), .slice a3 Z.length c3, .slice a4 Z.length c4] 36))) := by
      have hw4 := hb4.size
      have ha := bmore (Below.refl w4.heap.size w4) (.cells #[.int .i64 0, .int .i64 (n : Int), .slice a3 Z.length c3, .slice a4 Z.length c4] 36)
      exact ⟨HLb.out.later hba, Blk.new _ _ _, HW2.out.s.later hba, HW2.out.d.later hba, (ht4.s.later ha).mono hw3, (ht4.d.later ha).mono hw3, own_later HO2.out hba, fro_later HF2.out hba, bthen HB2.out hba, hw2, by omega, by omega⟩
    clear ht4 hb4 hba hw3 hw2 hLb HLb HW2 HO2 HF2 HB2 HNy2
    have HI : Hid (LI (n : Int) (frs n sts 0) (frs n sts (0 + 1)) Z Z Z Z) := by
      rw [frs_lo (by omega), frs_lo (by omega)]
      have h := HI0.out
      rwa [Int.toNat_natCast] at h
    have hlf := HI.out.faults.1
    have hsy := HI.out.faults.2
    clear HI0
    obtain ⟨l0, l1, l2, l3, _⟩ := HK.out.l.four
    obtain ⟨y0, y1, y2, y3, _⟩ := HK.out.y.four
    go_wp2_with fail
    generalize w4.heap.size = Yb at *
    generalize w4.alloc (.cells #[.int .i64 0, .int .i64 (n : Int), .slice a3 Z.length c3, .slice a4 Z.length c4] 36) = w5 at *
    refine (HLf.out (n : Int) _ _ Z Z _ HK.out.b HK.out.h.sl HK.out.r.sl HZl.out HZl.out).mono ?_
    rintro e w6 ⟨rfl, hb6⟩
    rw [hlf]
    have HK6 := hid (HK.out.later hb6)
    clear hb6 HK l0 l1 l2 l3 y0 y1 y2 y3 hlf
    obtain ⟨y0, y1, y2, y3, _⟩ := HK6.out.y.four
    go_wp2_with fail
    refine (HYf.out (n : Int) _ _ Z Z _ HK6.out.b HK6.out.d.sl HK6.out.t.sl HZl.out HZl.out).mono ?_
    rintro e w7 ⟨rfl, hb7⟩
    rw [hsy]
    have HK7 := hid (HK6.out.later hb7)
    clear hb7 HK6 y0 y1 y2 y3 hsy HZl
    go_wp2
    go_loopw [10] (fun i wr => ∃ (k : Nat) (vh vr vd vt : Value) (half rest head tail : List Int), i = .int .i64 (k : Int) ∧ k ≤ sts.length ∧ Hid (LW w n Lb Yb gl cl sts vh vr vd vt half rest head tail wr) ∧ Hid (LI (n : Int) (frs n sts k) (frs n sts (k + 1)) half rest head tail)) (fun i _ => sts.length - (intOf i).toNat)
    case atStart => exact ⟨0, _, _, _, _, Z, Z, Z, Z, rfl, Nat.zero_le _, HK7, HI⟩
    case round =>
      clear HK7 HI
      obtain ⟨k, vh, vr, vd, vt, half, rest, head, tail, rfl, hk, HKk, HIk⟩ := hrel
      by_cases hlt : k < sts.length
      · obtain ⟨hcell, ⟨gf, cf, hgf⟩, hof, hl2, hsm⟩ := HKk.out.step hlt
        have hst := HIk.out.step (f2 := frs n sts (k + 2)) (by rw [frs_hi, hl2]) (by rw [frs_hi]; exact hsm)
        rw [← frs_hi n k sts] at hof hl2
        rw [hgf] at hcell hof
        have hfit := hof.fits
        have HF2 := hid hof
        obtain ⟨e1, e2, e3, hI2⟩ := hst
        obtain ⟨fa1, fa2⟩ := HIk.out.faults
        obtain ⟨nfa, nfb⟩ := hI2.faults
        have hN8 : hN (n : Int) ≤ 8 := hm8
        obtain ⟨_, k1, k2, _⟩ := lf_ok fa1
        obtain ⟨_, k3, k4, _⟩ := sy_ok fa2
        obtain ⟨_, k5, k6, _⟩ := lf_ok nfa
        obtain ⟨_, k7, k8, _⟩ := sy_ok nfb
        have hK16 : (fdK (n : Int) half rest (frs n sts (k + 2))).length ≤ 16 := by
          have := (fd_lens (n : Int) half rest (frs n sts (k + 2))).2.2
          rwa [show fdW (n : Int) half rest (frs n sts (k + 2)) = fdK (n : Int) half rest (frs n sts (k + 2)) from if_pos e1] at this
        have h20 : n ≤ 16 := by have := HIk.out.n0; have h := (LapM.sz_nat Hz.out).2.2.1; omega
        have HFd2 : Hid (∀ (W : World) (v1 v2 v3 : Value), Below w.heap.size w W → Sl .i64 W v1 half → Sl .i64 W v2 rest → Sl .i64 W v3 (frs n sts (k + 2)) → Fits v1 → Fits v2 → Fits v3 → Calls Tryd.prog 13 #[.agg #[.int .i64 (n : Int), v1, v2], v3] W fun e w' => ∃ u t q, e = .returned (.agg #[.int .i64 0, .int .i64 (n : Int), u, t, q]) ∧ OWS W.heap.size w' [(u, fdH (n : Int) rest (frs n sts (k + 2))), (t, (frs n sts (k + 2)).drop (hN (n : Int))), (q, fdK (n : Int) half rest (frs n sts (k + 2)))] ∧ Below W.heap.size W w') := by
          intro W v1 v2 v3 hb q1 q2 q3 f1 f2 f3
          have h := HFd.out (n : Int) v1 v2 v3 half rest (frs n sts (k + 2)) W hb q1 q2 q3 f1 f2 f3 (by omega) (by omega) (by omega)
          rwa [e1, show fdS (n : Int) half rest (frs n sts (k + 2)) = n from if_pos e1, show fdU (n : Int) half rest (frs n sts (k + 2)) = fdH (n : Int) rest (frs n sts (k + 2)) from if_pos e1, show fdV (n : Int) half rest (frs n sts (k + 2)) = (frs n sts (k + 2)).drop (hN (n : Int)) from if_pos e1, show fdW (n : Int) half rest (frs n sts (k + 2)) = fdK (n : Int) half rest (frs n sts (k + 2)) from if_pos e1] at h
        have hF0 : ((frs n sts k).length : Int) = n := HIk.out.n0
        generalize hUU : fdH (n : Int) rest (frs n sts (k + 2)) = U at *
        generalize hVV : (frs n sts (k + 2)).drop (hN (n : Int)) = V at *
        generalize hKK : fdK (n : Int) half rest (frs n sts (k + 2)) = Kf at *
        have HPl2 : Hid (∀ (W : World) (v1 v2 v3 : Value), Below w.heap.size w W → Sl .i64 W v1 head → Sl .i64 W v2 tail → Sl .i64 W v3 Kf → Fits v1 → Fits v2 → Fits v3 → Calls Tryd.prog 14 #[.agg #[.int .i64 (n : Int), v1, v2], v3] W fun e w' => ∃ u t q, e = .returned (.agg #[.int .i64 0, .int .i64 (n : Int), u, t, q]) ∧ OWS W.heap.size w' [(u, plH (n : Int) tail Kf), (t, (plB (n : Int) Kf).drop (hN (n : Int))), (q, frs n sts k)] ∧ Below W.heap.size W w') := by
          intro W v1 v2 v3 hb q1 q2 q3 f1 f2 f3
          have h := HPl.out (n : Int) v1 v2 v3 head tail Kf W hb q1 q2 q3 f1 f2 f3 (by omega) (by omega) (by omega)
          rwa [e2, show plS (n : Int) head tail Kf = n from if_pos e2, show plU (n : Int) head tail Kf = plH (n : Int) tail Kf from if_pos e2, show plV (n : Int) head tail Kf = (plB (n : Int) Kf).drop (hN (n : Int)) from if_pos e2, show plW (n : Int) head tail Kf = head ++ plT (n : Int) tail Kf from if_pos e2, e3] at h
        generalize hPU : plH (n : Int) tail Kf = PU at *
        generalize hPV : (plB (n : Int) Kf).drop (hN (n : Int)) = PV at *
        have HI2 := hid hI2
        have lU : U.length ≤ 1048576 := by omega
        have lV : V.length ≤ 1048576 := by omega
        have lPU : PU.length ≤ 1048576 := by omega
        have lPV : PV.length ≤ 1048576 := by omega
        clear hof hI2 hsm e1 e2 e3 fa1 fa2 k1 k2 k3 k4 k5 k6 k7 k8 hUU hVV hKK hPU hPV hgf HIk
        generalize hF2e : frs n sts (k + 2) = F2 at *
        have Hh1 := hid HKk.out.h.fits
        have Hh2 := hid HKk.out.r.fits
        have Hh3 := hid HKk.out.d.fits
        have Hh4 := hid HKk.out.t.fits
        obtain ⟨ah, ch, rfl, -⟩ := HKk.out.h.sl
        obtain ⟨ar, cr, rfl, -⟩ := HKk.out.r.sl
        obtain ⟨ad, cd, rfl, -⟩ := HKk.out.d.sl
        obtain ⟨at', ct, rfl, -⟩ := HKk.out.t.sl
        have hgl := (HKk.out.o.lt gl rfl).2
        have hLl := HKk.out.l.lt
        have hkI : (k : Int) < (sts.length : Int) := by omega
        obtain ⟨l0, l1, l2, l3, _⟩ := HKk.out.l.four
        have HCs : Hid (∀ W, Below wr.heap.size wr W → W.cell? ⟨Lb, 1, none⟩ = some (.int .i64 (n : Int)) ∧ W.cell? ⟨Lb, 2, none⟩ = some (.slice ah half.length ch) ∧ W.cell? ⟨Lb, 3, none⟩ = some (.slice ar rest.length cr) ∧ W.cell? ⟨gl, k * 13, none⟩ = some (.slice (some ⟨gf, 0, none⟩) n cf)) := fun W hb => ⟨(hb.cell (p := ⟨Lb, 1, none⟩) hLl).trans l1, (hb.cell (p := ⟨Lb, 2, none⟩) hLl).trans l2, (hb.cell (p := ⟨Lb, 3, none⟩) hLl).trans l3, (hb.cell (p := ⟨gl, k * 13, none⟩) hgl).trans hcell⟩
        clear l0 l1 l2 l3 hcell
        go_upto_region 11 with fail
        go_cut [11] from 53 to 60 (fun z wc => ∃ (E d1 d2 d3 : Nat) (b1 b2 b3 : Option Addr), z = .pointer (some ⟨E, 0, none⟩) ∧ wr.heap.size ≤ E ∧ Hid (Blk wc E #[.int .i64 0, .int .i64 (n : Int), .slice b1 U.length d1, .slice b2 V.length d2, .slice b3 Kf.length d3] 41) ∧ Hid (OWS wr.heap.size wc [(.slice b1 U.length d1, U), (.slice b2 V.length d2, V), (.slice b3 Kf.length d3, Kf)]) ∧ Hid (Below wr.heap.size wr wc))
        case first =>
          have hL0 : Below wr.heap.size wr wr.drew := (Below.refl _ wr).drew
          have hA1 : Below wr.heap.size wr (wr.alloc (.cells #[.int .i64 0, .int .i64 0, .slice none 0 0, .slice none 0 0, .slice none 0 0] 41)).drew := (bmore (Below.refl _ wr) _).drew
          have hE1 : Blk (wr.alloc (.cells #[.int .i64 0, .int .i64 0, .slice none 0 0, .slice none 0 0, .slice none 0 0] 41)).drew wr.heap.size #[.int .i64 0, .int .i64 0, .slice none 0 0, .slice none 0 0, .slice none 0 0] 41 := Blk.new wr _ _
          have hKp := hL0
          refine wp_region_noPanic ?_
          refine wp_region_held_drew (S := fun W => Below wr.heap.size wr W) (by kernel_rfl) (by exact hKp) (fun hHeld => ?_)
          (refine wpAnyH_take (i := 0) (v := ?_) rfl (by kernel_rfl) (by kernel_rfl) (by kernel_rfl) (fun _ _ _ h => h) (Or.inl ⟨by rfl, ?_⟩) hHeld ?_; rotate_left; (intro w hSw; (obtain ⟨s0, s1, s2, s3⟩ := HCs.out _ hSw; clear hSw); (go_simp <;> with_reducible rfl)); simp only [List.getElem_toArray, List.getElem_cons_zero, Act.put, List.setIfInBounds_toArray, List.set_cons_zero, List.set_cons_succ])
          (refine wpAnyH_take (i := 1) (v := ?_) rfl (by kernel_rfl) (by kernel_rfl) (by kernel_rfl) (fun _ _ _ h => h) (Or.inl ⟨by rfl, ?_⟩) hHeld ?_; rotate_left; (intro w hSw; (obtain ⟨s0, s1, s2, s3⟩ := HCs.out _ hSw; clear hSw); (go_simp <;> with_reducible rfl)); simp only [List.getElem_toArray, List.getElem_cons_zero, List.getElem_cons_succ, Act.put, List.setIfInBounds_toArray, List.set_cons_zero, List.set_cons_succ])
          (refine wpAnyH_take (i := 2) (v := ?_) rfl (by kernel_rfl) (by kernel_rfl) (by kernel_rfl) (fun _ _ _ h => h) (Or.inl ⟨by rfl, ?_⟩) hHeld ?_; rotate_left; (intro w hSw; (obtain ⟨s0, s1, s2, s3⟩ := HCs.out _ hSw; clear hSw); (go_simp <;> with_reducible rfl)); simp only [List.getElem_toArray, List.getElem_cons_zero, List.getElem_cons_succ, Act.put, List.setIfInBounds_toArray, List.set_cons_zero, List.set_cons_succ])
          (refine wpAnyH_take (i := 3) (v := ?_) rfl (by kernel_rfl) (by kernel_rfl) (by kernel_rfl) (fun _ _ _ h => h) (Or.inl ⟨by rfl, ?_⟩) hHeld ?_; rotate_left; (intro w hSw; (obtain ⟨s0, s1, s2, s3⟩ := HCs.out _ hSw; clear hSw); (go_simp <;> with_reducible rfl)); simp only [List.getElem_toArray, List.getElem_cons_zero, List.getElem_cons_succ, Act.put, List.setIfInBounds_toArray, List.set_cons_zero, List.set_cons_succ])
          (refine wpAnyH_take (i := 4) (v := ?_) rfl (by kernel_rfl) (by kernel_rfl) (by kernel_rfl) (fun _ _ _ h => h) (Or.inl ⟨by rfl, ?_⟩) hHeld ?_; rotate_left; (intro w hSw; (obtain ⟨s0, s1, s2, s3⟩ := HCs.out _ hSw; clear hSw); (go_simp <;> with_reducible rfl)); simp only [List.getElem_toArray, List.getElem_cons_zero, List.getElem_cons_succ, Act.put, List.setIfInBounds_toArray, List.set_cons_zero, List.set_cons_succ])
          (refine wpAnyH_take (i := 5) (v := ?_) rfl (by kernel_rfl) (by kernel_rfl) (by kernel_rfl) (fun _ _ _ h => h) (Or.inl ⟨by rfl, ?_⟩) hHeld ?_; rotate_left; (intro w hSw; (obtain ⟨s0, s1, s2, s3⟩ := HCs.out _ hSw; clear hSw); (go_simp <;> with_reducible rfl)); simp only [List.getElem_toArray, List.getElem_cons_zero, List.getElem_cons_succ, Act.put, List.setIfInBounds_toArray, List.set_cons_zero, List.set_cons_succ])
          (refine wpAnyH_take (i := 6) (v := ?_) rfl (by kernel_rfl) (by kernel_rfl) (by kernel_rfl) (fun _ _ _ h => h) (Or.inl ⟨by rfl, ?_⟩) hHeld ?_; rotate_left; (intro w hSw; (obtain ⟨s0, s1, s2, s3⟩ := HCs.out _ hSw; clear hSw); (go_simp <;> with_reducible rfl)); simp only [List.getElem_toArray, List.getElem_cons_zero, List.getElem_cons_succ, Act.put, List.setIfInBounds_toArray, List.set_cons_zero, List.set_cons_succ])
          refine wpAnyH_ready (rs := [7, 8]) (by kernel_rfl) (by simp) ?_
          refine (AllReadyH.cons rfl (fun K hK => ?_) (AllReadyH.cons rfl (fun K hK => ?_) AllReadyH.nil))
          · go_simp
            (refine (HFd2.out _ _ _ _ (bthen HKk.out.b hHeld) (HKk.out.h.sl.later hHeld) (HKk.out.r.sl.later hHeld) (HF2.out.sl.later hHeld) Hh1.out Hh2.out hfit).mono ?_; rintro e w9 ⟨x1, x2, x3, rfl, ho9, hb9⟩; obtain ⟨b1, d1, rfl, -⟩ := ho9.h1.sl; obtain ⟨b2, d2, rfl, -⟩ := ho9.h2.sl; obtain ⟨b3, d3, rfl, -⟩ := ho9.h3.sl; have hL9 := bthen hHeld hb9; clear hE1; have hL7 := bmore hL9 (.cells #[.int .i64 0, .int .i64 0, .slice none 0 0, .slice none 0 0, .slice none 0 0] 41); have hP7 := bmore hL9 (.cells #[.int .i64 0, .int .i64 (n : Int), .slice b1 U.length d1, .slice b2 V.length d2, .slice b3 Kf.length d3] 41); have hQ9 := Blk.new w9 #[.int .i64 0, .int .i64 (n : Int), .slice b1 U.length d1, .slice b2 V.length d2, .slice b3 Kf.length d3] 41; have hle9 := hL9.size; have hO9 := (ho9.mono hHeld.size).later (bmore (Below.refl _ _) (.cells #[.int .i64 0, .int .i64 (n : Int), .slice b1 U.length d1, .slice b2 V.length d2, .slice b3 Kf.length d3] 41)); have hKp := hL9)
            refine hK.out _ _ (by exact hKp) (fun hHeld => ?_)
            clear hK K
            try dsimp only
            refine wpAnyH_ready (rs := [8]) (by kernel_rfl) (by simp) ?_
            refine (AllReadyH.cons rfl (fun K hK => ?_) AllReadyH.nil)
            go_simp
            (have hKp := hL7)
            refine hK.out _ _ (by exact hKp) (fun hHeld => ?_)
            clear hK K
            try simp only [List.getElem_toArray, List.getElem_cons_zero, List.getElem_cons_succ, Act.put, List.setIfInBounds_toArray, List.set_cons_zero, List.set_cons_succ]
            refine wpAnyH_ready (rs := [9]) (by kernel_rfl) (by simp) ?_
            refine (AllReadyH.cons rfl (fun K hK => ?_) AllReadyH.nil)
            go_simp
            (first | have hKp := hP9 | have hKp := hP7)
            refine hK.out _ _ (by exact hKp) (fun hHeld => ?_)
            clear hK K
            try simp only [List.getElem_toArray, List.getElem_cons_zero, List.getElem_cons_succ, Act.put, List.setIfInBounds_toArray, List.set_cons_zero, List.set_cons_succ]
            refine wpAnyH_done (by kernel_rfl) ?_ _
            refine NoPanic.normal ?_
            go_wp2_with fail
            go_meet
            case rel => first | exact ⟨_, _, _, _, _, _, _, rfl, Nat.le_refl _, hQ9, hO9, hP9⟩ | exact ⟨_, _, _, _, _, _, _, rfl, hle9, hQ9, hO9, hP7⟩
          · go_simp
            (have hKp := hA1)
            refine hK.out _ _ (by exact hKp) (fun hHeld => ?_)
            clear hK K
            try simp only [List.getElem_toArray, List.getElem_cons_zero, List.getElem_cons_succ, Act.put, List.setIfInBounds_toArray, List.set_cons_zero, List.set_cons_succ]
            refine wpAnyH_ready (rs := [7]) (by kernel_rfl) (by simp) ?_
            refine (AllReadyH.cons rfl (fun K hK => ?_) AllReadyH.nil)
            go_simp
            (refine (HFd2.out _ _ _ _ (bthen HKk.out.b hHeld) (HKk.out.h.sl.later hHeld) (HKk.out.r.sl.later hHeld) (HF2.out.sl.later hHeld) Hh1.out Hh2.out hfit).mono ?_; rintro e w9 ⟨x1, x2, x3, rfl, ho9, hb9⟩; obtain ⟨b1, d1, rfl, -⟩ := ho9.h1.sl; obtain ⟨b2, d2, rfl, -⟩ := ho9.h2.sl; obtain ⟨b3, d3, rfl, -⟩ := ho9.h3.sl; have hL9 := bthen hHeld hb9; have hlt9 : wr.heap.size < _ := hE1.lt; have hE9 := hE1.later hb9; obtain ⟨z0, z1, z2, z3, z4, z5⟩ := hE9.five; have hP9 := below_cell (below_cell (below_cell (below_cell (below_cell hL9 (Nat.le_refl _) 0 (.int .i64 0)) (Nat.le_refl _) 1 (.int .i64 (n : Int))) (Nat.le_refl _) 2 (.slice b1 U.length d1)) (Nat.le_refl _) 3 (.slice b2 V.length d2)) (Nat.le_refl _) 4 (.slice b3 Kf.length d3); have hQ9 := ((((hE9.set 0 (.int .i64 0)).set 1 (.int .i64 (n : Int))).set 2 (.slice b1 U.length d1)).set 3 (.slice b2 V.length d2)).set 4 (.slice b3 Kf.length d3); have hO9 := (ho9.on (On.of_grown (grown_set5 w9 wr.heap.size (.int .i64 0) (.int .i64 (n : Int)) (.slice b1 U.length d1) (.slice b2 V.length d2) (.slice b3 Kf.length d3))) (fun j hj e => by have h1 := (ho9.blocks hj).1; cases e; omega)).mono hHeld.size; have hKp := hL9)
            refine hK.out _ _ (by exact hKp) (fun hHeld => ?_)
            clear hK K
            try dsimp only
            refine wpAnyH_ready (rs := [9]) (by kernel_rfl) (by simp) ?_
            refine (AllReadyH.cons rfl (fun K hK => ?_) AllReadyH.nil)
            go_simp
            (first | have hKp := hP9 | have hKp := hP7)
            refine hK.out _ _ (by exact hKp) (fun hHeld => ?_)
            clear hK K
            try simp only [List.getElem_toArray, List.getElem_cons_zero, List.getElem_cons_succ, Act.put, List.setIfInBounds_toArray, List.set_cons_zero, List.set_cons_succ]
            refine wpAnyH_done (by kernel_rfl) ?_ _
            refine NoPanic.normal ?_
            go_wp2_with fail
            go_meet
            case rel => first | exact ⟨_, _, _, _, _, _, _, rfl, Nat.le_refl _, hQ9, hO9, hP9⟩ | exact ⟨_, _, _, _, _, _, _, rfl, hle9, hQ9, hO9, hP7⟩
        case rest =>
          obtain ⟨E, d1, d2, d3, b1, b2, b3, rfl, hE, HE, HOf, HBc⟩ := hcut
          have HK2 := hid (HKk.out.later HBc.out)
          have hwz := HKk.out.b.size
          have HOf2 := hid (HOf.out.mono hwz)
          have hff := HOf.out.h3.fits
          clear HKk HBc HCs hfit HF2 HOf HFd2 Hh1 Hh2 hgl hLl
          obtain ⟨e0, e1, e2, e3, e4, _⟩ := HE.out.five
          obtain ⟨y0, y1, y2, y3, _⟩ := HK2.out.y.four
          go_wp2_with fail
          refine (HPl2.out _ _ _ _ HK2.out.b HK2.out.d.sl HK2.out.t.sl HOf2.out.h3.sl Hh3.out Hh4.out hff).mono ?_
          rintro e w10 ⟨x4, x5, x6, rfl, ho10, hb10⟩
          obtain ⟨b4, d4, rfl, -⟩ := ho10.h1.sl
          obtain ⟨b5, d5, rfl, -⟩ := ho10.h2.sl
          obtain ⟨b6, d6, rfl, -⟩ := ho10.h3.sl
          have hba := bmore hb10 (.cells #[.int .i64 0, .int .i64 (n : Int), .slice b4 PU.length d4, .slice b5 PV.length d5, .slice b6 (frs n sts k).length d6] 48)
          have HK3 := hid (HK2.out.later hba)
          have HE3 := hid (HE.out.later hba)
          have HOf3 := hid (HOf2.out.later hba)
          have HP3 := hid (Blk.new w10 #[.int .i64 0, .int .i64 (n : Int), .slice b4 PU.length d4, .slice b5 PV.length d5, .slice b6 (frs n sts k).length d6] 48)
          have HOp3 := hid ((ho10.mono HK2.out.b.size).later (bmore (Below.refl _ _) (.cells #[.int .i64 0, .int .i64 (n : Int), .slice b4 PU.length d4, .slice b5 PV.length d5, .slice b6 (frs n sts k).length d6] 48)))
          clear e0 e1 e2 e3 e4 y0 y1 y2 y3 hba ho10 hb10 HK2 HE HOf2 HPl2 Hh3 Hh4 hff
          obtain ⟨e0, e1, e2, e3, e4, _⟩ := HE3.out.five
          obtain ⟨p0, p1, p2, p3, p4, _⟩ := HP3.out.five
          have hF0b : (((frs n sts k).length : Int) != (n : Int)) = false := by simpa using hF0
          go_wp2_with fail
          generalize w10.heap.size = P at *
          generalize w10.alloc (.cells #[.int .i64 0, .int .i64 (n : Int), .slice b4 PU.length d4, .slice b5 PV.length d5, .slice b6 (frs n sts k).length d6] 48) = w11 at *
          refine (HLf.out (n : Int) _ _ U V _ HK3.out.b HOf3.out.h1.sl HOf3.out.h2.sl lU lV).mono ?_
          rintro e w12 ⟨rfl, hb12⟩
          rw [nfa]
          have HK4 := hid (HK3.out.later hb12)
          have HE4 := hid (HE3.out.later hb12)
          have HOf4 := hid (HOf3.out.later hb12)
          have HP4 := hid (HP3.out.later hb12)
          have HOp4 := hid (HOp3.out.later hb12)
          clear e0 e1 e2 e3 e4 p0 p1 p2 p3 p4 hb12 HK3 HE3 HOf3 HP3 HOp3
          obtain ⟨p0, p1, p2, p3, p4, _⟩ := HP4.out.five
          go_wp2_with fail
          refine (HYf.out (n : Int) _ _ PU PV _ HK4.out.b HOp4.out.h1.sl HOp4.out.h2.sl lPU lPV).mono ?_
          rintro e w13 ⟨rfl, hb13⟩
          rw [nfb]
          have HK5 := hid (HK4.out.later hb13)
          have HE5 := hid (HE4.out.later hb13)
          have HOf5 := hid (HOf4.out.later hb13)
          have HP5 := hid (HP4.out.later hb13)
          have HOp5 := hid (HOp4.out.later hb13)
          clear p0 p1 p2 p3 p4 hb13 HK4 HE4 HOf4 HP4 HOp4
          obtain ⟨p0, p1, p2, p3, p4, _⟩ := HP5.out.five
          have hPl := HP5.out.lt
          go_upto_region 15 with fail
          have hL0 : Below w13.heap.size w13 w13.drew := (Below.refl _ _).drew
          go_cut [106] from 93 to 106 (fun z wc => z = .bool false ∧ Hid (Below w13.heap.size w13 wc))
          case first =>
            by_cases h2 : 2 ≤ k
            · obtain ⟨q, hq⟩ : ∃ q, k - 2 = q := ⟨_, rfl⟩
              have hqk : k = q + 2 := by omega
              have hqs : q < sts.length := by omega
              obtain ⟨hcell, ⟨gq, cq, hgq⟩, hoq, -, -⟩ := HK5.out.step hqs
              rw [← frs_hi n q sts, ← hqk] at hoq
              rw [hgq] at hcell hoq
              have HOq := hid hoq
              have hgl := (HK5.out.o.lt gl rfl).2
              have hqI : (k : Int) - 2 = (q : Int) := by omega
              have e1 : IntKind.i64.wrap (q : Int) = (q : Int) := wrapk_of (by omega) (by omega)
              have h2I : (2 : Int) ≤ (k : Int) := by omega
              have hqI2 : (q : Int) < (sts.length : Int) := by omega
              have HCs : Hid (∀ W, Below w13.heap.size w13 W → W.cell? ⟨P, 4, none⟩ = some (.slice b6 (frs n sts k).length d6) ∧ W.cell? ⟨gl, q * 13, none⟩ = some (.slice (some ⟨gq, 0, none⟩) n cq)) := fun W hb => ⟨(hb.cell (p := ⟨P, 4, none⟩) hPl).trans p4, (hb.cell (p := ⟨gl, q * 13, none⟩) hgl).trans hcell⟩
              clear hcell p0 p1 p2 p3 p4 hq hqk hgq
              refine wp_region_noPanic ?_
              refine wp_region_held_drew (S := fun W => Below w13.heap.size w13 W) (by kernel_rfl) ?_ (fun hHeld => ?_)
              · first | exact hL14 | exact hL0
              (refine wpAnyH_take (i := 0) (v := ?_) rfl (by kernel_rfl) (by kernel_rfl) (by kernel_rfl) (fun _ _ _ h => h) (Or.inl ⟨by rfl, ?_⟩) hHeld ?_; rotate_left; (intro w hSw; (obtain ⟨s0, s1⟩ := HCs.out _ hSw; clear hSw); (go_simp <;> with_reducible rfl)); simp only [List.getElem_toArray, List.getElem_cons_zero, Act.put, List.setIfInBounds_toArray, List.set_cons_zero, List.set_cons_succ])
              (refine wpAnyH_take (i := 1) (v := ?_) rfl (by kernel_rfl) (by kernel_rfl) (by kernel_rfl) (fun _ _ _ h => h) (Or.inl ⟨by rfl, ?_⟩) hHeld ?_; rotate_left; (intro w hSw; (obtain ⟨s0, s1⟩ := HCs.out _ hSw; clear hSw); (go_simp <;> with_reducible rfl)); simp only [List.getElem_toArray, List.getElem_cons_zero, List.getElem_cons_succ, Act.put, List.setIfInBounds_toArray, List.set_cons_zero, List.set_cons_succ])
              (refine wpAnyH_take (i := 2) (v := ?_) rfl (by kernel_rfl) (by kernel_rfl) (by kernel_rfl) (fun _ _ _ h => h) (Or.inl ⟨by rfl, ?_⟩) hHeld ?_; rotate_left; (intro w hSw; (obtain ⟨s0, s1⟩ := HCs.out _ hSw; clear hSw); (go_simp <;> with_reducible rfl)); simp only [List.getElem_toArray, List.getElem_cons_zero, List.getElem_cons_succ, Act.put, List.setIfInBounds_toArray, List.set_cons_zero, List.set_cons_succ])
              first | (refine wpAnyH_take (i := 3) (v := ?_) rfl (by kernel_rfl) (by kernel_rfl) (by kernel_rfl) (fun _ _ _ h => h) (Or.inl ⟨by rfl, ?_⟩) hHeld ?_; rotate_left; (intro w hSw; (obtain ⟨s0, s1⟩ := HCs.out _ hSw; clear hSw); (go_simp <;> with_reducible rfl)); simp only [List.getElem_toArray, List.getElem_cons_zero, List.getElem_cons_succ, Act.put, List.setIfInBounds_toArray, List.set_cons_zero, List.set_cons_succ]) | (refine wpAnyH_take (i := 3) (v := undef) rfl (by kernel_rfl) (by kernel_rfl) (by kernel_rfl) (fun _ _ _ h => h) (Or.inr ⟨by rfl, rfl⟩) hHeld ?_; simp only [List.getElem_toArray, List.getElem_cons_zero, List.getElem_cons_succ, Act.put, List.setIfInBounds_toArray, List.set_cons_zero, List.set_cons_succ])
              first | (refine wpAnyH_take (i := 4) (v := ?_) rfl (by kernel_rfl) (by kernel_rfl) (by kernel_rfl) (fun _ _ _ h => h) (Or.inl ⟨by rfl, ?_⟩) hHeld ?_; rotate_left; (intro w hSw; (obtain ⟨s0, s1⟩ := HCs.out _ hSw; clear hSw); (go_simp <;> with_reducible rfl)); simp only [List.getElem_toArray, List.getElem_cons_zero, List.getElem_cons_succ, Act.put, List.setIfInBounds_toArray, List.set_cons_zero, List.set_cons_succ]) | (refine wpAnyH_take (i := 4) (v := undef) rfl (by kernel_rfl) (by kernel_rfl) (by kernel_rfl) (fun _ _ _ h => h) (Or.inr ⟨by rfl, rfl⟩) hHeld ?_; simp only [List.getElem_toArray, List.getElem_cons_zero, List.getElem_cons_succ, Act.put, List.setIfInBounds_toArray, List.set_cons_zero, List.set_cons_succ])
              first | (refine wpAnyH_take (i := 5) (v := ?_) rfl (by kernel_rfl) (by kernel_rfl) (by kernel_rfl) (fun _ _ _ h => h) (Or.inl ⟨by rfl, ?_⟩) hHeld ?_; rotate_left; (intro w hSw; (obtain ⟨s0, s1⟩ := HCs.out _ hSw; clear hSw); (go_simp <;> with_reducible rfl)); simp only [List.getElem_toArray, List.getElem_cons_zero, List.getElem_cons_succ, Act.put, List.setIfInBounds_toArray, List.set_cons_zero, List.set_cons_succ]) | (refine wpAnyH_take (i := 5) (v := undef) rfl (by kernel_rfl) (by kernel_rfl) (by kernel_rfl) (fun _ _ _ h => h) (Or.inr ⟨by rfl, rfl⟩) hHeld ?_; simp only [List.getElem_toArray, List.getElem_cons_zero, List.getElem_cons_succ, Act.put, List.setIfInBounds_toArray, List.set_cons_zero, List.set_cons_succ])
              first | (refine wpAnyH_take (i := 6) (v := ?_) rfl (by kernel_rfl) (by kernel_rfl) (by kernel_rfl) (fun _ _ _ h => h) (Or.inl ⟨by rfl, ?_⟩) hHeld ?_; rotate_left; (intro w hSw; (obtain ⟨s0, s1⟩ := HCs.out _ hSw; clear hSw); (go_simp <;> with_reducible rfl)); simp only [List.getElem_toArray, List.getElem_cons_zero, List.getElem_cons_succ, Act.put, List.setIfInBounds_toArray, List.set_cons_zero, List.set_cons_succ]) | (refine wpAnyH_take (i := 6) (v := undef) rfl (by kernel_rfl) (by kernel_rfl) (by kernel_rfl) (fun _ _ _ h => h) (Or.inr ⟨by rfl, rfl⟩) hHeld ?_; simp only [List.getElem_toArray, List.getElem_cons_zero, List.getElem_cons_succ, Act.put, List.setIfInBounds_toArray, List.set_cons_zero, List.set_cons_succ])
              first | (refine wpAnyH_take (i := 7) (v := ?_) rfl (by kernel_rfl) (by kernel_rfl) (by kernel_rfl) (fun _ _ _ h => h) (Or.inl ⟨by rfl, ?_⟩) hHeld ?_; rotate_left; (intro w hSw; (obtain ⟨s0, s1⟩ := HCs.out _ hSw; clear hSw); (go_simp <;> with_reducible rfl)); simp only [List.getElem_toArray, List.getElem_cons_zero, List.getElem_cons_succ, Act.put, List.setIfInBounds_toArray, List.set_cons_zero, List.set_cons_succ]) | (refine wpAnyH_take (i := 7) (v := undef) rfl (by kernel_rfl) (by kernel_rfl) (by kernel_rfl) (fun _ _ _ h => h) (Or.inr ⟨by rfl, rfl⟩) hHeld ?_; simp only [List.getElem_toArray, List.getElem_cons_zero, List.getElem_cons_succ, Act.put, List.setIfInBounds_toArray, List.set_cons_zero, List.set_cons_succ])
              first | (refine wpAnyH_take (i := 8) (v := ?_) rfl (by kernel_rfl) (by kernel_rfl) (by kernel_rfl) (fun _ _ _ h => h) (Or.inl ⟨by rfl, ?_⟩) hHeld ?_; rotate_left; (intro w hSw; (obtain ⟨s0, s1⟩ := HCs.out _ hSw; clear hSw); (go_simp <;> with_reducible rfl)); simp only [List.getElem_toArray, List.getElem_cons_zero, List.getElem_cons_succ, Act.put, List.setIfInBounds_toArray, List.set_cons_zero, List.set_cons_succ]) | (refine wpAnyH_take (i := 8) (v := undef) rfl (by kernel_rfl) (by kernel_rfl) (by kernel_rfl) (fun _ _ _ h => h) (Or.inr ⟨by rfl, rfl⟩) hHeld ?_; simp only [List.getElem_toArray, List.getElem_cons_zero, List.getElem_cons_succ, Act.put, List.setIfInBounds_toArray, List.set_cons_zero, List.set_cons_succ])
              first | (refine wpAnyH_take (i := 9) (v := ?_) rfl (by kernel_rfl) (by kernel_rfl) (by kernel_rfl) (fun _ _ _ h => h) (Or.inl ⟨by rfl, ?_⟩) hHeld ?_; rotate_left; (intro w hSw; (obtain ⟨s0, s1⟩ := HCs.out _ hSw; clear hSw); (go_simp <;> with_reducible rfl)); simp only [List.getElem_toArray, List.getElem_cons_zero, List.getElem_cons_succ, Act.put, List.setIfInBounds_toArray, List.set_cons_zero, List.set_cons_succ]) | (refine wpAnyH_take (i := 9) (v := undef) rfl (by kernel_rfl) (by kernel_rfl) (by kernel_rfl) (fun _ _ _ h => h) (Or.inr ⟨by rfl, rfl⟩) hHeld ?_; simp only [List.getElem_toArray, List.getElem_cons_zero, List.getElem_cons_succ, Act.put, List.setIfInBounds_toArray, List.set_cons_zero, List.set_cons_succ])
              first | (refine wpAnyH_take (i := 10) (v := ?_) rfl (by kernel_rfl) (by kernel_rfl) (by kernel_rfl) (fun _ _ _ h => h) (Or.inl ⟨by rfl, ?_⟩) hHeld ?_; rotate_left; (intro w hSw; (obtain ⟨s0, s1⟩ := HCs.out _ hSw; clear hSw); (go_simp <;> with_reducible rfl)); simp only [List.getElem_toArray, List.getElem_cons_zero, List.getElem_cons_succ, Act.put, List.setIfInBounds_toArray, List.set_cons_zero, List.set_cons_succ]) | (refine wpAnyH_take (i := 10) (v := undef) rfl (by kernel_rfl) (by kernel_rfl) (by kernel_rfl) (fun _ _ _ h => h) (Or.inr ⟨by rfl, rfl⟩) hHeld ?_; simp only [List.getElem_toArray, List.getElem_cons_zero, List.getElem_cons_succ, Act.put, List.setIfInBounds_toArray, List.set_cons_zero, List.set_cons_succ])
              first | (refine wpAnyH_take (i := 11) (v := undef) rfl (by kernel_rfl) (by kernel_rfl) (by kernel_rfl) (fun _ _ _ h => h) (Or.inr ⟨by rfl, rfl⟩) hHeld ?_; simp only [List.getElem_toArray, List.getElem_cons_zero, List.getElem_cons_succ, Act.put, List.setIfInBounds_toArray, List.set_cons_zero, List.set_cons_succ]) | (refine wpAnyH_ready (rs := [11]) (by kernel_rfl) (by simp) ?_; refine AllReadyH.cons rfl (fun K hK => ?_) AllReadyH.nil; go_simp; (refine (lwNums_calls _ _ (frs n sts k) _ (HOp5.out.h3.sl.later hHeld) (HOq.out.sl.later hHeld) (by omega)).mono ?_; rintro e w14 ⟨rfl, hb14⟩; have hL14 := bthen hHeld hb14); refine hK.out _ _ ?_ (fun hHeld => ?_); (first | exact hL14 | exact hL0); clear hK K; try dsimp only)
              first | (refine wpAnyH_take (i := 12) (v := ?_) rfl (by kernel_rfl) (by kernel_rfl) (by kernel_rfl) (fun _ _ _ h => h) (Or.inl ⟨by rfl, ?_⟩) hHeld ?_; rotate_left; (intro w hSw; (obtain ⟨s0, s1⟩ := HCs.out _ hSw; clear hSw); (go_simp <;> with_reducible rfl)); simp only [List.getElem_toArray, List.getElem_cons_zero, List.getElem_cons_succ, Act.put, List.setIfInBounds_toArray, List.set_cons_zero, List.set_cons_succ]) | (refine wpAnyH_take (i := 12) (v := undef) rfl (by kernel_rfl) (by kernel_rfl) (by kernel_rfl) (fun _ _ _ h => h) (Or.inr ⟨by rfl, rfl⟩) hHeld ?_; simp only [List.getElem_toArray, List.getElem_cons_zero, List.getElem_cons_succ, Act.put, List.setIfInBounds_toArray, List.set_cons_zero, List.set_cons_succ])
              (refine wpAnyH_take (i := 13) (v := ?_) rfl (by kernel_rfl) (by kernel_rfl) (by kernel_rfl) (fun _ _ _ h => h) (Or.inl ⟨by rfl, ?_⟩) hHeld ?_; rotate_left; (intro w hSw; (obtain ⟨s0, s1⟩ := HCs.out _ hSw; clear hSw); (go_simp <;> with_reducible rfl)); simp only [List.getElem_toArray, List.getElem_cons_zero, List.getElem_cons_succ, Act.put, List.setIfInBounds_toArray, List.set_cons_zero, List.set_cons_succ])
              refine wpAnyH_done (by kernel_rfl) ?_ _
              refine NoPanic.normal ?_
              go_wp2_with fail
              go_meet
              case rel => exact ⟨rfl, hHeld⟩
            · have h2I : ¬ (2 : Int) ≤ (k : Int) := by omega
              refine wp_region_noPanic ?_
              refine wp_region_held_drew (S := fun W => Below w13.heap.size w13 W) (by kernel_rfl) ?_ (fun hHeld => ?_)
              · exact hL0
              (refine wpAnyH_take (i := 0) (v := ?_) rfl (by kernel_rfl) (by kernel_rfl) (by kernel_rfl) (fun _ _ _ h => h) (Or.inl ⟨by rfl, ?_⟩) hHeld ?_; rotate_left; (intro w hSw; skip; (go_simp <;> with_reducible rfl)); simp only [List.getElem_toArray, List.getElem_cons_zero, Act.put, List.setIfInBounds_toArray, List.set_cons_zero, List.set_cons_succ])
              (refine wpAnyH_take (i := 1) (v := ?_) rfl (by kernel_rfl) (by kernel_rfl) (by kernel_rfl) (fun _ _ _ h => h) (Or.inl ⟨by rfl, ?_⟩) hHeld ?_; rotate_left; (intro w hSw; skip; (go_simp <;> with_reducible rfl)); simp only [List.getElem_toArray, List.getElem_cons_zero, List.getElem_cons_succ, Act.put, List.setIfInBounds_toArray, List.set_cons_zero, List.set_cons_succ])
              (refine wpAnyH_take (i := 2) (v := ?_) rfl (by kernel_rfl) (by kernel_rfl) (by kernel_rfl) (fun _ _ _ h => h) (Or.inl ⟨by rfl, ?_⟩) hHeld ?_; rotate_left; (intro w hSw; skip; (go_simp <;> with_reducible rfl)); simp only [List.getElem_toArray, List.getElem_cons_zero, List.getElem_cons_succ, Act.put, List.setIfInBounds_toArray, List.set_cons_zero, List.set_cons_succ])
              first | (refine wpAnyH_take (i := 3) (v := ?_) rfl (by kernel_rfl) (by kernel_rfl) (by kernel_rfl) (fun _ _ _ h => h) (Or.inl ⟨by rfl, ?_⟩) hHeld ?_; rotate_left; (intro w hSw; skip; (go_simp <;> with_reducible rfl)); simp only [List.getElem_toArray, List.getElem_cons_zero, List.getElem_cons_succ, Act.put, List.setIfInBounds_toArray, List.set_cons_zero, List.set_cons_succ]) | (refine wpAnyH_take (i := 3) (v := undef) rfl (by kernel_rfl) (by kernel_rfl) (by kernel_rfl) (fun _ _ _ h => h) (Or.inr ⟨by rfl, rfl⟩) hHeld ?_; simp only [List.getElem_toArray, List.getElem_cons_zero, List.getElem_cons_succ, Act.put, List.setIfInBounds_toArray, List.set_cons_zero, List.set_cons_succ])
              first | (refine wpAnyH_take (i := 4) (v := ?_) rfl (by kernel_rfl) (by kernel_rfl) (by kernel_rfl) (fun _ _ _ h => h) (Or.inl ⟨by rfl, ?_⟩) hHeld ?_; rotate_left; (intro w hSw; skip; (go_simp <;> with_reducible rfl)); simp only [List.getElem_toArray, List.getElem_cons_zero, List.getElem_cons_succ, Act.put, List.setIfInBounds_toArray, List.set_cons_zero, List.set_cons_succ]) | (refine wpAnyH_take (i := 4) (v := undef) rfl (by kernel_rfl) (by kernel_rfl) (by kernel_rfl) (fun _ _ _ h => h) (Or.inr ⟨by rfl, rfl⟩) hHeld ?_; simp only [List.getElem_toArray, List.getElem_cons_zero, List.getElem_cons_succ, Act.put, List.setIfInBounds_toArray, List.set_cons_zero, List.set_cons_succ])
              first | (refine wpAnyH_take (i := 5) (v := ?_) rfl (by kernel_rfl) (by kernel_rfl) (by kernel_rfl) (fun _ _ _ h => h) (Or.inl ⟨by rfl, ?_⟩) hHeld ?_; rotate_left; (intro w hSw; skip; (go_simp <;> with_reducible rfl)); simp only [List.getElem_toArray, List.getElem_cons_zero, List.getElem_cons_succ, Act.put, List.setIfInBounds_toArray, List.set_cons_zero, List.set_cons_succ]) | (refine wpAnyH_take (i := 5) (v := undef) rfl (by kernel_rfl) (by kernel_rfl) (by kernel_rfl) (fun _ _ _ h => h) (Or.inr ⟨by rfl, rfl⟩) hHeld ?_; simp only [List.getElem_toArray, List.getElem_cons_zero, List.getElem_cons_succ, Act.put, List.setIfInBounds_toArray, List.set_cons_zero, List.set_cons_succ])
              first | (refine wpAnyH_take (i := 6) (v := ?_) rfl (by kernel_rfl) (by kernel_rfl) (by kernel_rfl) (fun _ _ _ h => h) (Or.inl ⟨by rfl, ?_⟩) hHeld ?_; rotate_left; (intro w hSw; skip; (go_simp <;> with_reducible rfl)); simp only [List.getElem_toArray, List.getElem_cons_zero, List.getElem_cons_succ, Act.put, List.setIfInBounds_toArray, List.set_cons_zero, List.set_cons_succ]) | (refine wpAnyH_take (i := 6) (v := undef) rfl (by kernel_rfl) (by kernel_rfl) (by kernel_rfl) (fun _ _ _ h => h) (Or.inr ⟨by rfl, rfl⟩) hHeld ?_; simp only [List.getElem_toArray, List.getElem_cons_zero, List.getElem_cons_succ, Act.put, List.setIfInBounds_toArray, List.set_cons_zero, List.set_cons_succ])
              first | (refine wpAnyH_take (i := 7) (v := ?_) rfl (by kernel_rfl) (by kernel_rfl) (by kernel_rfl) (fun _ _ _ h => h) (Or.inl ⟨by rfl, ?_⟩) hHeld ?_; rotate_left; (intro w hSw; skip; (go_simp <;> with_reducible rfl)); simp only [List.getElem_toArray, List.getElem_cons_zero, List.getElem_cons_succ, Act.put, List.setIfInBounds_toArray, List.set_cons_zero, List.set_cons_succ]) | (refine wpAnyH_take (i := 7) (v := undef) rfl (by kernel_rfl) (by kernel_rfl) (by kernel_rfl) (fun _ _ _ h => h) (Or.inr ⟨by rfl, rfl⟩) hHeld ?_; simp only [List.getElem_toArray, List.getElem_cons_zero, List.getElem_cons_succ, Act.put, List.setIfInBounds_toArray, List.set_cons_zero, List.set_cons_succ])
              first | (refine wpAnyH_take (i := 8) (v := ?_) rfl (by kernel_rfl) (by kernel_rfl) (by kernel_rfl) (fun _ _ _ h => h) (Or.inl ⟨by rfl, ?_⟩) hHeld ?_; rotate_left; (intro w hSw; skip; (go_simp <;> with_reducible rfl)); simp only [List.getElem_toArray, List.getElem_cons_zero, List.getElem_cons_succ, Act.put, List.setIfInBounds_toArray, List.set_cons_zero, List.set_cons_succ]) | (refine wpAnyH_take (i := 8) (v := undef) rfl (by kernel_rfl) (by kernel_rfl) (by kernel_rfl) (fun _ _ _ h => h) (Or.inr ⟨by rfl, rfl⟩) hHeld ?_; simp only [List.getElem_toArray, List.getElem_cons_zero, List.getElem_cons_succ, Act.put, List.setIfInBounds_toArray, List.set_cons_zero, List.set_cons_succ])
              first | (refine wpAnyH_take (i := 9) (v := ?_) rfl (by kernel_rfl) (by kernel_rfl) (by kernel_rfl) (fun _ _ _ h => h) (Or.inl ⟨by rfl, ?_⟩) hHeld ?_; rotate_left; (intro w hSw; skip; (go_simp <;> with_reducible rfl)); simp only [List.getElem_toArray, List.getElem_cons_zero, List.getElem_cons_succ, Act.put, List.setIfInBounds_toArray, List.set_cons_zero, List.set_cons_succ]) | (refine wpAnyH_take (i := 9) (v := undef) rfl (by kernel_rfl) (by kernel_rfl) (by kernel_rfl) (fun _ _ _ h => h) (Or.inr ⟨by rfl, rfl⟩) hHeld ?_; simp only [List.getElem_toArray, List.getElem_cons_zero, List.getElem_cons_succ, Act.put, List.setIfInBounds_toArray, List.set_cons_zero, List.set_cons_succ])
              first | (refine wpAnyH_take (i := 10) (v := ?_) rfl (by kernel_rfl) (by kernel_rfl) (by kernel_rfl) (fun _ _ _ h => h) (Or.inl ⟨by rfl, ?_⟩) hHeld ?_; rotate_left; (intro w hSw; skip; (go_simp <;> with_reducible rfl)); simp only [List.getElem_toArray, List.getElem_cons_zero, List.getElem_cons_succ, Act.put, List.setIfInBounds_toArray, List.set_cons_zero, List.set_cons_succ]) | (refine wpAnyH_take (i := 10) (v := undef) rfl (by kernel_rfl) (by kernel_rfl) (by kernel_rfl) (fun _ _ _ h => h) (Or.inr ⟨by rfl, rfl⟩) hHeld ?_; simp only [List.getElem_toArray, List.getElem_cons_zero, List.getElem_cons_succ, Act.put, List.setIfInBounds_toArray, List.set_cons_zero, List.set_cons_succ])
              first | (refine wpAnyH_take (i := 11) (v := undef) rfl (by kernel_rfl) (by kernel_rfl) (by kernel_rfl) (fun _ _ _ h => h) (Or.inr ⟨by rfl, rfl⟩) hHeld ?_; simp only [List.getElem_toArray, List.getElem_cons_zero, List.getElem_cons_succ, Act.put, List.setIfInBounds_toArray, List.set_cons_zero, List.set_cons_succ]) | (refine wpAnyH_ready (rs := [11]) (by kernel_rfl) (by simp) ?_; refine AllReadyH.cons rfl (fun K hK => ?_) AllReadyH.nil; go_simp; fail; refine hK.out _ _ ?_ (fun hHeld => ?_); (exact hL0); clear hK K; try dsimp only)
              first | (refine wpAnyH_take (i := 12) (v := ?_) rfl (by kernel_rfl) (by kernel_rfl) (by kernel_rfl) (fun _ _ _ h => h) (Or.inl ⟨by rfl, ?_⟩) hHeld ?_; rotate_left; (intro w hSw; skip; (go_simp <;> with_reducible rfl)); simp only [List.getElem_toArray, List.getElem_cons_zero, List.getElem_cons_succ, Act.put, List.setIfInBounds_toArray, List.set_cons_zero, List.set_cons_succ]) | (refine wpAnyH_take (i := 12) (v := undef) rfl (by kernel_rfl) (by kernel_rfl) (by kernel_rfl) (fun _ _ _ h => h) (Or.inr ⟨by rfl, rfl⟩) hHeld ?_; simp only [List.getElem_toArray, List.getElem_cons_zero, List.getElem_cons_succ, Act.put, List.setIfInBounds_toArray, List.set_cons_zero, List.set_cons_succ])
              (refine wpAnyH_take (i := 13) (v := ?_) rfl (by kernel_rfl) (by kernel_rfl) (by kernel_rfl) (fun _ _ _ h => h) (Or.inl ⟨by rfl, ?_⟩) hHeld ?_; rotate_left; (intro w hSw; skip; (go_simp <;> with_reducible rfl)); simp only [List.getElem_toArray, List.getElem_cons_zero, List.getElem_cons_succ, Act.put, List.setIfInBounds_toArray, List.set_cons_zero, List.set_cons_succ])
              refine wpAnyH_done (by kernel_rfl) ?_ _
              refine NoPanic.normal ?_
              go_wp2_with fail
              go_meet
              case rel => exact ⟨rfl, hHeld⟩
          case rest =>
            obtain ⟨rfl, HB14⟩ := hcut
            have HK6 := hid (HK5.out.later HB14.out)
            have HE6 := hid (HE5.out.later HB14.out)
            have HP6 := hid (HP5.out.later HB14.out)
            have HN6 := hid (HK6.out.new2 (HOf5.out.h1.later HB14.out) (HOf5.out.h2.later HB14.out) (HOp5.out.h1.later HB14.out) (HOp5.out.h2.later HB14.out))
            have hne := HK6.out.ne
            have hEL : E ≠ Lb := blk_ne HE6.out HK6.out.l (by decide)
            have hPL : P ≠ Lb := blk_ne HP6.out HK6.out.l (by decide)
            have hPY : P ≠ Yb := blk_ne HP6.out HK6.out.y (by decide)
            obtain ⟨e0, e1, e2, e3, e4, _⟩ := HE6.out.five
            obtain ⟨l0, l1, l2, l3, g0, g1, g2, g3⟩ := HK6.out.l.four
            obtain ⟨q0, q1, q2, q3, q4, _⟩ := (((HP6.out.other hPL.symm 1 (.int .i64 (n : Int))).other hPL.symm 2 (.slice b1 U.length d1)).other hPL.symm 3 (.slice b2 V.length d2)).five
            obtain ⟨y0, y1, y2, y3, j0, j1, j2, j3⟩ := (((HK6.out.y.other hne 1 (.int .i64 (n : Int))).other hne 2 (.slice b1 U.length d1)).other hne 3 (.slice b2 V.length d2)).four
            clear p0 p1 p2 p3 p4 HK5 HE5 HP5 HOf5 HOp5 HB14 HK6 HE6 HP6
            go_wp2
            go_roundw
            case rel => exact ⟨k + 1, _, _, _, _, U, V, PU, PV, by go_num, by omega, HN6, by rw [show k + 1 + 1 = k + 2 from rfl, hF2e]; exact HI2⟩
            case measure => simp [intOf]; omega
      · go_wp2
        go_ret
        exact ⟨rfl, HKk.out.b⟩
end Go.Proofs.YtgnbailcibhenaaDoor.LpsW
