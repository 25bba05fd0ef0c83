/- The walk through FnBursts. Condition: the library's table holds what its text lays. -/
import Derived.Test.YtlljdehjlbmgcaaDoorBurD
import Derived.Test.YtlljdehjlbmgcaaDoorOpenS
import Derived.Test.YtlljdehjlbmgcaaDoorFlipF
import Derived.Test.YtlljdehjlbmgcaaDoorLwAt
import Derived.Deep.DeepCutAuto
namespace Go.Proofs.YtlljdehjlbmgcaaDoor.BurW
open Go.ChangeShapes Go.WideShapes Go.ChangeAt Go.RowKit Go.Proofs.YtlljdehjlbmgcaaDoor.Num Go.Proofs.YtlljdehjlbmgcaaDoor.Sli Go.Proofs.YtlljdehjlbmgcaaDoor.App Go.Proofs.YtlljdehjlbmgcaaDoor.Byt Go.Proofs.YtlljdehjlbmgcaaDoor.Src Go.Proofs.YtlljdehjlbmgcaaDoor.CrcM Go.Proofs.YtlljdehjlbmgcaaDoor.Crc Go.Proofs.YtlljdehjlbmgcaaDoor.Seal Go.Proofs.YtlljdehjlbmgcaaDoor.Open Go.Proofs.YtlljdehjlbmgcaaDoor.OpenS Go.Proofs.YtlljdehjlbmgcaaDoor.FlipM Go.Proofs.YtlljdehjlbmgcaaDoor.Bits Go.Proofs.YtlljdehjlbmgcaaDoor.FlipF Go.Proofs.YtlljdehjlbmgcaaDoor.BurD Go.Proofs.YtlljdehjlbmgcaaDoor.LwAt

theorem cut2_seal (ys : List Int) : cut2 (sealL ys) = ys := by
  unfold cut2
  rw [sealL_len, show ys.length + 2 - 2 = ys.length by omega]
  unfold sealL
  simp
theorem ok_seal (ys : List Int) : okB (sealL ys) = true := by
  unfold okB
  rw [cut2_seal]
  simp
theorem op_seal (ys : List Int) (h : ys.length ≤ 158) : opC (sealL ys) = 0 :=
  (op_yes (xs := sealL ys) (by rw [sealL_len]; omega) (by rw [sealL_len]; omega) (ok_seal ys)).1

/-- Where no code is told, both numbers are right ones. -/
theorem fl_zero {xs : List Int} {a b : Int} (h : flC xs a b = 0) : okA xs a b ∧ a.toNat + plB b < 8 * xs.length ∧ flL xs a b = flN xs a.toNat b.toNat (lenB b) (plB b + 1) ∧ Len b.toNat (lenB b) ∧ Last b.toNat (lenB b) (plB b) := by
  by_cases hm : 160 < xs.length
  · rw [(fl_many hm).1] at h; cases h
  · by_cases hk : okA xs a b ∧ a.toNat + plB b < 8 * xs.length
    · have hok := hk.1
      obtain ⟨h1, h2, h3, h4, h5⟩ := hk.1
      have := okA_facts (xs := xs) (a := a) (b := b) h1 (inB_yes h2 h3) (inB_yes h4 h5)
      obtain ⟨_, _, _, _, _, _, hL, _, _, _, _, hP⟩ := this
      exact ⟨hok, hk.2, (fl_good hk).2, hL, hP⟩
    · rw [(fl_bad (by omega) hk).1] at h; cases h
/-- Turned twice they are as they were, and turned once they are not. -/
theorem fl_twice {xs : List Int} {a b : Int} (hx : BytesL xs) (h : flC xs a b = 0) : flL (flL xs a b) a b = xs ∧ flL xs a b ≠ xs ∧ BytesL (flL xs a b) := by
  obtain ⟨h1, h2, h3, h4, h5⟩ := fl_zero h
  have hl : (flL xs a b).length = xs.length := by rw [h3, flN_len]
  have hk : okA (flL xs a b) a b ∧ a.toNat + plB b < 8 * (flL xs a b).length := by
    unfold okA; rw [hl]; exact ⟨h1, h2⟩
  refine ⟨?_, ?_, ?_⟩
  · rw [(fl_good hk).2, h3]; exact flip_twice hx _ _ _ _ h5 h2
  · rw [h3]; exact flip_other hx _ _ _ _ h4 h5 h2
  · rw [h3]; exact flN_bd hx _ _ _ _
/-- What is turned within sixteen bits is told. -/
theorem fl_told {ys : List Int} {a b : Int} (hy : BytesL ys) (hn : ys.length ≤ 158) (h : flC (sealL ys) a b = 0) : opC (flL (sealL ys) a b) = 10 ∧ BytesL (flL (sealL ys) a b) := by
  obtain ⟨h1, h2, h3, h4, h5⟩ := fl_zero h
  have hl : (flL (sealL ys) a b).length = ys.length + 2 := by rw [h3, flN_len, sealL_len]
  refine ⟨(op_no (by omega) (by omega) ?_).1, by rw [h3]; exact flN_bd (sealL_bd hy) _ _ _ _⟩
  cases hk : okB (flL (sealL ys) a b) with
  | false => rfl
  | true =>
    exfalso
    have e : sealL (cut2 (flL (sealL ys) a b)) = flL (sealL ys) a b := of_decide_eq_true hk
    rw [h3] at e
    exact flip_told hy _ _ _ _ h4 h5 h2 _ e

/-- An answer lies in block p: its code, and its list, which holds xs. -/
def C2 (p : Nat) (c : Int) (v : Value) (xs : List Int) (W : World) : Prop :=
  W.cell? ⟨p, 0, none⟩ = some (.int .i64 c) ∧ W.cell? ⟨p, 1, none⟩ = some v ∧ p < W.heap.size ∧ Sl .u8 W v xs
theorem C2.later {p : Nat} {c : Int} {v : Value} {xs : List Int} {W W' : World} (h : C2 p c v xs W) (hb : Below W.heap.size W W') : C2 p c v xs W' :=
  ⟨(hb.cell (p := ⟨p, 0, none⟩) h.2.2.1).trans h.1, (hb.cell (p := ⟨p, 1, none⟩) h.2.2.1).trans h.2.1, Nat.lt_of_lt_of_le h.2.2.1 hb.size, h.2.2.2.later hb⟩
theorem C2.new (W : World) (c : Int) (v : Value) (xs : List Int) (T : TypeId) (h : Sl .u8 W v xs) : C2 W.heap.size c v xs (W.alloc (.cells #[.int .i64 c, v] T)) :=
  ⟨by simp, by simp, by simp, h.later (bmore (Below.refl _ _) _)⟩
/-- What the law reads. -/
def K1 (w : World) (p : Nat) (c : Int) (F D : Value) (zs ys : List Int) (W : World) : Prop := C2 p c F zs W ∧ Sl .u8 W D ys ∧ Below w.heap.size w W
theorem K1.later {w : World} {p : Nat} {c : Int} {F D : Value} {zs ys : List Int} {W W' : World} (h : K1 w p c F D zs ys W) (hb : Below W.heap.size W W') : K1 w p c F D zs ys W' :=
  ⟨h.1.later hb, h.2.1.later hb, bthen h.2.2 hb⟩

/-- .. and the second answer. -/
def K3 (w : World) (q u : Nat) (c3 : Int) (S G D : Value) (ss gs ys : List Int) (W : World) : Prop := C2 u c3 G gs W ∧ K1 w q 0 S D ss ys W
theorem K3.later {w : World} {q u : Nat} {c3 : Int} {S G D : Value} {ss gs ys : List Int} {W W' : World} (h : K3 w q u c3 S G D ss gs ys W) (hb : Below W.heap.size W W') : K3 w q u c3 S G D ss gs ys W' :=
  ⟨h.1.later hb, h.2.later hb⟩

theorem fieldB0 (c v : Value) (w : World) : (Instr.field 27 (.agg #[c, v]) 0).run Tryd.prog w = .ok c w := by kernel_rfl
theorem fieldB1 (c v : Value) (w : World) : (Instr.field 27 (.agg #[c, v]) 1).run Tryd.prog w = .ok v w := by kernel_rfl
attribute [local go_sem] fieldB0 fieldB1
attribute [local go_sem ↓] Go.wp_at_zero Go.wp_at_succ

set_option maxRecDepth 100000 in
set_option maxHeartbeats 2000000 in
theorem fnBursts_calls (a : Option Addr) (cap : Nat) (bs : List Int) (w : World) (hT : Tab w) (hsl : Sl .u8 w (.slice a bs.length cap) bs) (hbd : ∀ x ∈ bs, 0 ≤ x ∧ x ≤ 255) :
    Calls Tryd.prog 3 #[.slice a bs.length cap] w fun e w' => e = .returned (.bool true) ∧ Below w.heap.size w w' := by
  by_cases hbig : 1048576 < bs.length
  · have hb' : (1048576 : Int) < bs.length := by omega
    clear hsl hbd
    go_enter Tryd.func3, Tryd.ntmps3
    go_wp2
    go_ret
    exact ⟨rfl, Below.refl _ _⟩
  · have hb' : (bs.length : Int) ≤ 1048576 := by omega
    have H1 := hid (drawFlip_calls a cap bs w hsl hbd (by omega))
    have H4 := hid (fun w' (hb : Below w.heap.size w w') n (hn : n ≤ 2147483648) => lwAt_calls a cap bs w' (hsl.later hb) hbd (by omega) 1 n (by omega) (by omega) hn)
    have HT := hid (fun w' (hb : Below w.heap.size w w') => hT.later hb)
    clear hsl hbd hT
    go_enter Tryd.func3, Tryd.ntmps3
    go_wp2_with (first | (go_at_call 5; go_in) | fail)
    refine H1.out.mono ?_
    rintro e w1 ⟨gd, cd, ys, r1, r2, rfl, hoD, hyl, hyb, hb1⟩
    have HD := hid hoD.sl
    have HB1 := hid hb1
    clear H1 hoD hb1
    go_wp2_with fail
    refine (implFlip_calls _ ys r1 r2 _ (HT.out _ HB1.out) HD.out hyb).mono ?_
    rintro e w2 ⟨F, rfl, hoF, hb2⟩
    have hF := hoF.sl
    have hK2 : K1 w w2.heap.size (flC ys r1 r2) F (.slice (some ⟨gd, 0, none⟩) ys.length cd) (flL ys r1 r2) ys (w2.alloc (.cells #[.int .i64 (flC ys r1 r2), F] 27)).drew :=
      ⟨(C2.new w2 _ _ _ _ hF).later (Below.refl _ _).drew, HD.out.later (bmore hb2 _).drew, (bmore (bthen HB1.out hb2) _).drew⟩
    obtain ⟨aF, cF, rfl, _⟩ := hF
    clear hoF hb2 HD HB1
    go_wp2_with fail
    generalize w2.heap.size = p at *
    refine wp_region_noPanic ?_
    refine wp_region_held_drew (S := (K1 w p (flC ys r1 r2) (.slice aF (flL ys r1 r2).length cF) (.slice (some ⟨gd, 0, none⟩) ys.length cd) (flL ys r1 r2) ys)) (by kernel_rfl) ?_ (fun hHeld => ?_)
    · assumption
    (refine wpAnyH_take (i := 0) (v := ?_) rfl (by kernel_rfl) (by kernel_rfl) (by kernel_rfl) (fun _ _ _ h => h) (Or.inl ⟨by rfl, ?_⟩) hHeld ?_; rotate_left; (intro w hSw; have k1 := hSw.1.1; clear hSw; (go_simp <;> with_reducible rfl)); simp only [List.getElem_toArray, List.getElem_cons_zero, Act.put, List.setIfInBounds_toArray, List.set_cons_zero, List.set_cons_succ])
    (refine wpAnyH_take (i := 1) (v := ?_) rfl (by kernel_rfl) (by kernel_rfl) (by kernel_rfl) (fun _ _ _ h => h) (Or.inl ⟨by rfl, ?_⟩) hHeld ?_; rotate_left; (intro w hSw; have k1 := hSw.1.1; clear hSw; (go_simp <;> with_reducible rfl)); simp only [List.getElem_toArray, List.getElem_cons_zero, List.getElem_cons_succ, Act.put, List.setIfInBounds_toArray, List.set_cons_zero, List.set_cons_succ])
    (refine wpAnyH_take (i := 2) (v := ?_) rfl (by kernel_rfl) (by kernel_rfl) (by kernel_rfl) (fun _ _ _ h => h) (Or.inl ⟨by rfl, ?_⟩) hHeld ?_; rotate_left; (intro w hSw; have k1 := hSw.1.1; clear hSw; (go_simp <;> with_reducible rfl)); simp only [List.getElem_toArray, List.getElem_cons_zero, List.getElem_cons_succ, Act.put, List.setIfInBounds_toArray, List.set_cons_zero, List.set_cons_succ])
    (refine wpAnyH_take (i := 3) (v := ?_) rfl (by kernel_rfl) (by kernel_rfl) (by kernel_rfl) (fun _ _ _ h => h) (Or.inl ⟨by rfl, ?_⟩) hHeld ?_; rotate_left; (intro w hSw; have k1 := hSw.1.1; clear hSw; (go_simp <;> with_reducible rfl)); simp only [List.getElem_toArray, List.getElem_cons_zero, List.getElem_cons_succ, Act.put, List.setIfInBounds_toArray, List.set_cons_zero, List.set_cons_succ])
    (refine wpAnyH_take (i := 4) (v := ?_) rfl (by kernel_rfl) (by kernel_rfl) (by kernel_rfl) (fun _ _ _ h => h) (Or.inl ⟨by rfl, ?_⟩) hHeld ?_; rotate_left; (intro w hSw; have k1 := hSw.1.1; clear hSw; (go_simp <;> with_reducible rfl)); simp only [List.getElem_toArray, List.getElem_cons_zero, List.getElem_cons_succ, Act.put, List.setIfInBounds_toArray, List.set_cons_zero, List.set_cons_succ])
    (refine wpAnyH_ready (rs := [5]) (by kernel_rfl) (by simp) ?_; refine AllReadyH.cons rfl (fun K hK => ?_) AllReadyH.nil; go_simp; (refine (specFlip_calls _ ys r1 r2 _ hHeld.2.1 hyb).mono ?_; rintro e w' ⟨v1, rfl, _, hb1⟩; have hK' := hHeld.later hb1); refine hK.out _ _ ?_ (fun hHeld => ?_); (assumption); clear hK K; try simp only [List.getElem_toArray, List.getElem_cons_zero, List.getElem_cons_succ, Act.put, List.setIfInBounds_toArray, List.set_cons_zero, List.set_cons_succ])
    (refine wpAnyH_take (i := 6) (v := ?_) rfl (by kernel_rfl) (by kernel_rfl) (by kernel_rfl) (fun _ _ _ h => h) (Or.inl ⟨by rfl, ?_⟩) hHeld ?_; rotate_left; (intro w hSw; have k1 := hSw.1.1; clear hSw; (go_simp <;> with_reducible rfl)); simp only [List.getElem_toArray, List.getElem_cons_zero, List.getElem_cons_succ, Act.put, List.setIfInBounds_toArray, List.set_cons_zero, List.set_cons_succ])
    (refine wpAnyH_take (i := 7) (v := ?_) rfl (by kernel_rfl) (by kernel_rfl) (by kernel_rfl) (fun _ _ _ h => h) (Or.inl ⟨by rfl, ?_⟩) hHeld ?_; rotate_left; (intro w hSw; have k1 := hSw.1.1; clear hSw; (go_simp <;> with_reducible rfl)); simp only [List.getElem_toArray, List.getElem_cons_zero, List.getElem_cons_succ, Act.put, List.setIfInBounds_toArray, List.set_cons_zero, List.set_cons_succ])
    refine wpAnyH_done (by kernel_rfl) ?_ _
    refine NoPanic.normal ?_
    clear hK2
    go_upto_region 7 with fail
    go_cut [49] (fun t wc => t = .bool false ∧ K1 w p (flC ys r1 r2) (.slice aF (flL ys r1 r2).length cF) (.slice (some ⟨gd, 0, none⟩) ys.length cd) (flL ys r1 r2) ys wc)
    case first =>
      have k0 := hHeld.1.1
      have k1 := hHeld.1.2.1
      have hpl := hHeld.1.2.2.1
      by_cases hz : flC ys r1 r2 = 0
      · obtain ⟨t1, t2, t3⟩ := fl_twice hyb hz
        have e0 : (flC ys r1 r2 == 0) = true := by rw [hz]; rfl
        have Ht1 := hid t1
        have Ht2 : Hid (decide (flL ys r1 r2 = ys) = false) := decide_eq_false t2
        have HK := hid hHeld
        clear t1 t2 hz hHeld hK'
        generalize hzs : flL ys r1 r2 = zs at *
        clear hzs
        generalize flC ys r1 r2 = c1 at *
        go_wp2_with fail
        refine (implFlip_calls _ zs r1 r2 _ (HT.out _ HK.out.2.2) HK.out.1.2.2.2 t3).mono ?_
        rintro e w6 ⟨v6, rfl, ho6, hb6⟩
        have HK6 := hid (HK.out.later hb6)
        have Ho6 := hid ho6.sl
        rw [Ht1.out] at Ho6
        have k0 := HK6.out.1.1
        have k1 := HK6.out.1.2.1
        clear ho6 hb6
        go_wp2_with fail
        refine (lwBytes_calls _ _ ys ys _ Ho6.out HK6.out.2.1 hyb hyb).mono ?_
        rintro e w7 ⟨rfl, hw7⟩
        subst hw7
        have ht : decide (ys = ys) = true := by simp
        go_wp2_with fail
        refine (lwBytes_calls _ _ zs ys _ HK6.out.1.2.2.2 HK6.out.2.1 t3 hyb).mono ?_
        rw [Ht2.out]
        rintro e w8 ⟨rfl, hw8⟩
        subst hw8
        go_wp2_with fail
        go_meet
        case rel => exact ⟨rfl, HK6.out⟩
      · have e0 : (flC ys r1 r2 == 0) = false := by simpa using hz
        have HK := hid hHeld
        clear hz hHeld
        generalize flC ys r1 r2 = c1 at *
        go_wp2_with fail
        go_meet
        case rel => exact ⟨rfl, HK.out⟩
    case rest =>
      obtain ⟨rfl, hK⟩ := hcut
      clear hHeld hK' hb1
      have HK := hid hK
      clear hK
      go_wp2_with fail
      refine (implSeal_calls _ ys _ HK.out.2.1 hyb).mono ?_
      rintro e w9 ⟨vs, rfl, hoS, hb9⟩
      have hS := hoS.sl
      have hfS := hoS.fits
      have hK9 : K1 w w9.heap.size (seC ys) vs (.slice (some ⟨gd, 0, none⟩) ys.length cd) (seL ys) ys (w9.alloc (.cells #[.int .i64 (seC ys), vs] 27)) :=
        ⟨C2.new w9 _ _ _ _ hS, HK.out.2.1.later (bmore hb9 _), bmore (bthen HK.out.2.2 hb9) _⟩
      obtain ⟨aS, cS, rfl, _⟩ := hS
      clear hoS hb9 HK
      by_cases hse : 158 < ys.length
      · have e1 : (seC ys != 0) = true := by rw [show seC ys = 2 from if_pos hse]; rfl
        have hK9d := hK9.later (Below.refl _ _).drew
        have HK9 := hid hK9
        clear hK9
        go_wp2_with fail
        generalize w9.heap.size = q at *
        refine wp_region_noPanic ?_
        refine wp_region_held_drew (S := (K1 w q (seC ys) (.slice aS (seL ys).length cS) (.slice (some ⟨gd, 0, none⟩) ys.length cd) (seL ys) ys)) (by kernel_rfl) ?_ (fun hHeld => ?_)
        · assumption
        (refine wpAnyH_take (i := 0) (v := ?_) rfl (by kernel_rfl) (by kernel_rfl) (by kernel_rfl) (fun _ _ _ h => h) (Or.inl ⟨by rfl, ?_⟩) hHeld ?_; rotate_left; (intro w hSw; have k1 := hSw.1.1; clear hSw; (go_simp <;> with_reducible rfl)); simp only [List.getElem_toArray, List.getElem_cons_zero, Act.put, List.setIfInBounds_toArray, List.set_cons_zero, List.set_cons_succ])
        (refine wpAnyH_take (i := 1) (v := ?_) rfl (by kernel_rfl) (by kernel_rfl) (by kernel_rfl) (fun _ _ _ h => h) (Or.inl ⟨by rfl, ?_⟩) hHeld ?_; rotate_left; (intro w hSw; have k1 := hSw.1.1; clear hSw; (go_simp <;> with_reducible rfl)); simp only [List.getElem_toArray, List.getElem_cons_zero, List.getElem_cons_succ, Act.put, List.setIfInBounds_toArray, List.set_cons_zero, List.set_cons_succ])
        (refine wpAnyH_take (i := 2) (v := ?_) rfl (by kernel_rfl) (by kernel_rfl) (by kernel_rfl) (fun _ _ _ h => h) (Or.inl ⟨by rfl, ?_⟩) hHeld ?_; rotate_left; (intro w hSw; have k1 := hSw.1.1; clear hSw; (go_simp <;> with_reducible rfl)); simp only [List.getElem_toArray, List.getElem_cons_zero, List.getElem_cons_succ, Act.put, List.setIfInBounds_toArray, List.set_cons_zero, List.set_cons_succ])
        (refine wpAnyH_ready (rs := [3]) (by kernel_rfl) (by simp) ?_; refine AllReadyH.cons rfl (fun K hK => ?_) AllReadyH.nil; go_simp; (refine (specSeal_calls _ ys _ hHeld.2.1 hyb).mono ?_; rintro e w' ⟨v1, rfl, _, hb1⟩; have hK' := hHeld.later hb1); refine hK.out _ _ ?_ (fun hHeld => ?_); (assumption); clear hK K; try simp only [List.getElem_toArray, List.getElem_cons_zero, List.getElem_cons_succ, Act.put, List.setIfInBounds_toArray, List.set_cons_zero, List.set_cons_succ])
        (refine wpAnyH_take (i := 4) (v := ?_) rfl (by kernel_rfl) (by kernel_rfl) (by kernel_rfl) (fun _ _ _ h => h) (Or.inl ⟨by rfl, ?_⟩) hHeld ?_; rotate_left; (intro w hSw; have k1 := hSw.1.1; clear hSw; (go_simp <;> with_reducible rfl)); simp only [List.getElem_toArray, List.getElem_cons_zero, List.getElem_cons_succ, Act.put, List.setIfInBounds_toArray, List.set_cons_zero, List.set_cons_succ])
        (refine wpAnyH_take (i := 5) (v := ?_) rfl (by kernel_rfl) (by kernel_rfl) (by kernel_rfl) (fun _ _ _ h => h) (Or.inl ⟨by rfl, ?_⟩) hHeld ?_; rotate_left; (intro w hSw; have k1 := hSw.1.1; clear hSw; (go_simp <;> with_reducible rfl)); simp only [List.getElem_toArray, List.getElem_cons_zero, List.getElem_cons_succ, Act.put, List.setIfInBounds_toArray, List.set_cons_zero, List.set_cons_succ])
        (refine wpAnyH_take (i := 6) (v := ?_) rfl (by kernel_rfl) (by kernel_rfl) (by kernel_rfl) (fun _ _ _ h => h) (Or.inl ⟨by rfl, ?_⟩) hHeld ?_; rotate_left; (intro w hSw; have k1 := hSw.1.1; clear hSw; (go_simp <;> with_reducible rfl)); simp only [List.getElem_toArray, List.getElem_cons_zero, List.getElem_cons_succ, Act.put, List.setIfInBounds_toArray, List.set_cons_zero, List.set_cons_succ])
        refine wpAnyH_done (by kernel_rfl) ?_ _
        refine NoPanic.normal ?_
        have HB := hid hHeld.2.2
        clear hHeld hK' hK9d HK9
        go_wp2
        go_ret
        exact ⟨rfl, HB.out⟩
      · have hsc : seC ys = 0 := if_neg hse
        have hsL : seL ys = sealL ys := if_neg hse
        have hl : (seL ys).length = ys.length + 2 := by rw [hsL, sealL_len]
        have hn158 : ys.length ≤ 158 := by omega
        rw [hsc, hl, hsL] at hK9
        rw [hl] at hfS
        rw [hsc, hl]
        have HK9 := hid hK9
        clear hsc hsL hl hse hK9
        go_wp2_with fail
        refine (H4.out _ HK9.out.2.2 _ (by omega)).mono ?_
        rintro e w10 ⟨r, rfl, hr0, _, hb10⟩
        have HK10 := hid (HK9.out.later hb10)
        generalize w9.heap.size = q at *
        have k0 := HK10.out.1.1
        have k1 := HK10.out.1.2.1
        have hql := HK10.out.1.2.2.1
        clear HK9 hb10
        go_wp2_with fail
        refine (implFlip_calls _ (sealL ys) r r2 _ (HT.out _ HK10.out.2.2) HK10.out.1.2.2.2 (sealL_bd hyb)).mono ?_
        rintro e w11 ⟨G, rfl, hoG, hb11⟩
        have hG := hoG.sl
        have hfG := hoG.fits
        have hK11 : K3 w q w11.heap.size (flC (sealL ys) r r2) (.slice aS (ys.length + 2) cS) G (.slice (some ⟨gd, 0, none⟩) ys.length cd) (sealL ys) (flL (sealL ys) r r2) ys (w11.alloc (.cells #[.int .i64 (flC (sealL ys) r r2), G] 27)) :=
          ⟨C2.new w11 _ _ _ _ hG, HK10.out.later (bmore hb11 _)⟩
        obtain ⟨aG, cG, rfl, _⟩ := hG
        have hq11 : q < w11.heap.size := Nat.lt_of_lt_of_le hql hb11.size
        clear hoG hb11 HK10 k0 k1
        by_cases hz : flC (sealL ys) r r2 = 0
        · obtain ⟨t1, t2⟩ := fl_told hyb hn158 hz
          have hop := op_seal ys hn158
          have e0 : (flC (sealL ys) r r2 != 0) = false := by rw [hz]; rfl
          have HK11 := hid hK11
          have k0 := hK11.1.1
          have k1 := hK11.1.2.1
          have Ht1 := hid t1
          have Hop := hid hop
          clear hK11 hz t1 hop
          generalize hgs : flL (sealL ys) r r2 = gs at *
          clear hgs
          generalize flC (sealL ys) r r2 = c3 at *
          go_wp2_with fail
          refine (implOpen_calls _ gs _ hfG HK11.out.1.2.2.2 t2).mono ?_
          rw [Ht1.out]
          rintro e w12 ⟨v12, rfl, _, hb12⟩
          have HK12 := hid (HK11.out.later hb12)
          have k0 := HK12.out.2.1.1
          have k1 := HK12.out.2.1.2.1
          clear HK11 hb12
          go_wp2_with fail
          refine (implOpen_calls _ (sealL ys) _ hfS HK12.out.2.1.2.2.2 (sealL_bd hyb)).mono ?_
          rw [Hop.out]
          rintro e w13 ⟨v13, rfl, _, hb13⟩
          have HB := hid (bthen HK12.out.2.2.2 hb13)
          clear HK12 hb13 k0 k1
          go_wp2
          go_ret
          exact ⟨rfl, HB.out⟩
        · have e0 : (flC (sealL ys) r r2 != 0) = true := by simpa using hz
          have hK11d := hK11.later (Below.refl _ _).drew
          have HK11 := hid hK11
          clear hK11 hz
          go_wp2_with fail
          generalize w11.heap.size = u at *
          refine wp_region_noPanic ?_
          refine wp_region_held_drew (S := (K3 w q u (flC (sealL ys) r r2) (.slice aS (ys.length + 2) cS) (.slice aG (flL (sealL ys) r r2).length cG) (.slice (some ⟨gd, 0, none⟩) ys.length cd) (sealL ys) (flL (sealL ys) r r2) ys)) (by kernel_rfl) ?_ (fun hHeld => ?_)
          · assumption
          (refine wpAnyH_take (i := 0) (v := ?_) rfl (by kernel_rfl) (by kernel_rfl) (by kernel_rfl) (fun _ _ _ h => h) (Or.inl ⟨by rfl, ?_⟩) hHeld ?_; rotate_left; (intro w hSw; have k1 := hSw.1.1; have k2 := hSw.2.1.2.1; clear hSw; (go_simp <;> with_reducible rfl)); simp only [List.getElem_toArray, List.getElem_cons_zero, Act.put, List.setIfInBounds_toArray, List.set_cons_zero, List.set_cons_succ])
          (refine wpAnyH_take (i := 1) (v := ?_) rfl (by kernel_rfl) (by kernel_rfl) (by kernel_rfl) (fun _ _ _ h => h) (Or.inl ⟨by rfl, ?_⟩) hHeld ?_; rotate_left; (intro w hSw; have k1 := hSw.1.1; have k2 := hSw.2.1.2.1; clear hSw; (go_simp <;> with_reducible rfl)); simp only [List.getElem_toArray, List.getElem_cons_zero, List.getElem_cons_succ, Act.put, List.setIfInBounds_toArray, List.set_cons_zero, List.set_cons_succ])
          (refine wpAnyH_take (i := 2) (v := ?_) rfl (by kernel_rfl) (by kernel_rfl) (by kernel_rfl) (fun _ _ _ h => h) (Or.inl ⟨by rfl, ?_⟩) hHeld ?_; rotate_left; (intro w hSw; have k1 := hSw.1.1; have k2 := hSw.2.1.2.1; clear hSw; (go_simp <;> with_reducible rfl)); simp only [List.getElem_toArray, List.getElem_cons_zero, List.getElem_cons_succ, Act.put, List.setIfInBounds_toArray, List.set_cons_zero, List.set_cons_succ])
          (refine wpAnyH_take (i := 3) (v := ?_) rfl (by kernel_rfl) (by kernel_rfl) (by kernel_rfl) (fun _ _ _ h => h) (Or.inl ⟨by rfl, ?_⟩) hHeld ?_; rotate_left; (intro w hSw; have k1 := hSw.1.1; have k2 := hSw.2.1.2.1; clear hSw; (go_simp <;> with_reducible rfl)); simp only [List.getElem_toArray, List.getElem_cons_zero, List.getElem_cons_succ, Act.put, List.setIfInBounds_toArray, List.set_cons_zero, List.set_cons_succ])
          (refine wpAnyH_take (i := 4) (v := ?_) rfl (by kernel_rfl) (by kernel_rfl) (by kernel_rfl) (fun _ _ _ h => h) (Or.inl ⟨by rfl, ?_⟩) hHeld ?_; rotate_left; (intro w hSw; have k1 := hSw.1.1; have k2 := hSw.2.1.2.1; clear hSw; (go_simp <;> with_reducible rfl)); simp only [List.getElem_toArray, List.getElem_cons_zero, List.getElem_cons_succ, Act.put, List.setIfInBounds_toArray, List.set_cons_zero, List.set_cons_succ])
          (refine wpAnyH_take (i := 5) (v := ?_) rfl (by kernel_rfl) (by kernel_rfl) (by kernel_rfl) (fun _ _ _ h => h) (Or.inl ⟨by rfl, ?_⟩) hHeld ?_; rotate_left; (intro w hSw; have k1 := hSw.1.1; have k2 := hSw.2.1.2.1; clear hSw; (go_simp <;> with_reducible rfl)); simp only [List.getElem_toArray, List.getElem_cons_zero, List.getElem_cons_succ, Act.put, List.setIfInBounds_toArray, List.set_cons_zero, List.set_cons_succ])
          (refine wpAnyH_ready (rs := [6]) (by kernel_rfl) (by simp) ?_; refine AllReadyH.cons rfl (fun K hK => ?_) AllReadyH.nil; go_simp; (refine (specFlip_calls _ (sealL ys) r r2 _ hHeld.2.1.2.2.2 (sealL_bd hyb)).mono ?_; rintro e w' ⟨v1, rfl, _, hb1⟩; have hK' := hHeld.later hb1); refine hK.out _ _ ?_ (fun hHeld => ?_); (assumption); clear hK K; try simp only [List.getElem_toArray, List.getElem_cons_zero, List.getElem_cons_succ, Act.put, List.setIfInBounds_toArray, List.set_cons_zero, List.set_cons_succ])
          (refine wpAnyH_take (i := 7) (v := ?_) rfl (by kernel_rfl) (by kernel_rfl) (by kernel_rfl) (fun _ _ _ h => h) (Or.inl ⟨by rfl, ?_⟩) hHeld ?_; rotate_left; (intro w hSw; have k1 := hSw.1.1; have k2 := hSw.2.1.2.1; clear hSw; (go_simp <;> with_reducible rfl)); simp only [List.getElem_toArray, List.getElem_cons_zero, List.getElem_cons_succ, Act.put, List.setIfInBounds_toArray, List.set_cons_zero, List.set_cons_succ])
          (refine wpAnyH_take (i := 8) (v := ?_) rfl (by kernel_rfl) (by kernel_rfl) (by kernel_rfl) (fun _ _ _ h => h) (Or.inl ⟨by rfl, ?_⟩) hHeld ?_; rotate_left; (intro w hSw; have k1 := hSw.1.1; have k2 := hSw.2.1.2.1; clear hSw; (go_simp <;> with_reducible rfl)); simp only [List.getElem_toArray, List.getElem_cons_zero, List.getElem_cons_succ, Act.put, List.setIfInBounds_toArray, List.set_cons_zero, List.set_cons_succ])
          (refine wpAnyH_take (i := 9) (v := ?_) rfl (by kernel_rfl) (by kernel_rfl) (by kernel_rfl) (fun _ _ _ h => h) (Or.inl ⟨by rfl, ?_⟩) hHeld ?_; rotate_left; (intro w hSw; have k1 := hSw.1.1; have k2 := hSw.2.1.2.1; clear hSw; (go_simp <;> with_reducible rfl)); simp only [List.getElem_toArray, List.getElem_cons_zero, List.getElem_cons_succ, Act.put, List.setIfInBounds_toArray, List.set_cons_zero, List.set_cons_succ])
          refine wpAnyH_done (by kernel_rfl) ?_ _
          refine NoPanic.normal ?_
          have HB := hid hHeld.2.2.2
          clear hHeld hK' hK11d HK11
          go_wp2
          go_ret
          exact ⟨rfl, HB.out⟩
end Go.Proofs.YtlljdehjlbmgcaaDoor.BurW
