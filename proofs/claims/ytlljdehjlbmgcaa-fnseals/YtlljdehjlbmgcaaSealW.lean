/- The walk through FnSeals. -/
import Derived.Test.YtlljdehjlbmgcaaSealD
import Derived.Test.YtlljdehjlbmgcaaOpenS
import Derived.Deep.DeepCutAuto
namespace Go.Proofs.Ytlljdehjlbmgcaa.SealW
open Go.ChangeShapes Go.WideShapes Go.ChangeAt Go.RowKit Go.Proofs.Ytlljdehjlbmgcaa.Num Go.Proofs.Ytlljdehjlbmgcaa.Sli Go.Proofs.Ytlljdehjlbmgcaa.App Go.Proofs.Ytlljdehjlbmgcaa.Byt Go.Proofs.Ytlljdehjlbmgcaa.Src Go.Proofs.Ytlljdehjlbmgcaa.CrcM Go.Proofs.Ytlljdehjlbmgcaa.Crc Go.Proofs.Ytlljdehjlbmgcaa.Seal Go.Proofs.Ytlljdehjlbmgcaa.SealD Go.Proofs.Ytlljdehjlbmgcaa.Open Go.Proofs.Ytlljdehjlbmgcaa.OpenS

theorem cut2_seal (ys : List Int) : cut2 (sealL ys) = ys := by
  unfold cut2
  rw [sealL_len, show ys.length + 2 - 2 = ys.length by omega]
  unfold sealL
  simp
theorem ok_seal (ys : List Int) : okB (sealL ys) = true := by
  unfold okB
  rw [cut2_seal]
  simp
theorem op_seal (ys : List Int) (h : ys.length ≤ 158) : opC (sealL ys) = 0 ∧ opL (sealL ys) = ys := by
  have := op_yes (xs := sealL ys) (by rw [sealL_len]; omega) (by rw [sealL_len]; omega) (ok_seal ys)
  rwa [cut2_seal] at this
theorem op_zero {zs : List Int} (h : opC zs = 0) : 2 ≤ zs.length ∧ zs.length ≤ 160 ∧ okB zs = true ∧ opL zs = cut2 zs ∧ seL (cut2 zs) = zs := by
  by_cases hm : zs.length < 2 ∨ 160 < zs.length
  · rw [(op_many hm).1] at h; cases h
  · have h1 : 2 ≤ zs.length := by omega
    have h2 : zs.length ≤ 160 := by omega
    cases hk : okB zs with
    | false => rw [(op_no h1 h2 hk).1] at h; cases h
    | true =>
      refine ⟨h1, h2, rfl, (op_yes h1 h2 hk).2, ?_⟩
      unfold seL
      rw [if_neg (by rw [cut2_len]; omega)]
      exact of_decide_eq_true hk
theorem seal_last (ys : List Int) : (sealL ys).getD ys.length 0 = (crc ys : Int) / 256 ∧ (sealL ys).getD (ys.length + 1) 0 = (crc ys : Int) % 256 := by
  unfold sealL
  constructor <;> simp [List.getD_eq_getElem?_getD]

theorem sl_at {k : IntKind} {w : World} {g n cap : Nat} {xs : List Int} (h : Sl k w (.slice (some ⟨g, 0, none⟩) n cap) xs) (i : Nat) (hi : i < xs.length) : w.cell? ⟨g, i, none⟩ = some (.int k (xs.getD i 0)) := by
  obtain ⟨a, c, hv, hc⟩ := h
  obtain ⟨b, off, ha, _, hx⟩ := hc (by intro e; rw [e] at hi; simp at hi)
  subst ha
  simp at hv
  obtain ⟨⟨rfl, rfl⟩, _⟩ := hv
  have := hx i hi
  rwa [Nat.zero_add] at this

/-- What the law reads: both answers lie where they were stored, and each list holds its bytes. -/
structure KS (w : World) (p q : Nat) (c1 c2 : Int) (vs vo D O : Value) (ss oo ys zs : List Int) (W : World) : Prop where
  p0 : W.cell? ⟨p, 0, none⟩ = some (.int .i64 c1)
  p1 : W.cell? ⟨p, 1, none⟩ = some vs
  q0 : W.cell? ⟨q, 0, none⟩ = some (.int .i64 c2)
  q1 : W.cell? ⟨q, 1, none⟩ = some vo
  sS : Sl .u8 W vs ss
  sP : Sl .u8 W vo oo
  sD : Sl .u8 W D ys
  sO : Sl .u8 W O zs
  lp : p < W.heap.size
  lq : q < W.heap.size
  bel : Below w.heap.size w W
theorem KS.later {w : World} {p q : Nat} {c1 c2 : Int} {vs vo D O : Value} {ss oo ys zs : List Int} {W W' : World} (h : KS w p q c1 c2 vs vo D O ss oo ys zs W) (hb : Below W.heap.size W W') : KS w p q c1 c2 vs vo D O ss oo ys zs W' := by
  have hs := hb.size; have lp := h.lp; have lq := h.lq
  refine ⟨?_, ?_, ?_, ?_, h.sS.later hb, h.sP.later hb, h.sD.later hb, h.sO.later hb, by omega, by omega, bthen h.bel hb⟩
  · rw [hb.cell (p := ⟨p, 0, none⟩) lp]; exact h.p0
  · rw [hb.cell (p := ⟨p, 1, none⟩) lp]; exact h.p1
  · rw [hb.cell (p := ⟨q, 0, none⟩) lq]; exact h.q0
  · rw [hb.cell (p := ⟨q, 1, none⟩) lq]; exact h.q1

theorem sl_atO {k : IntKind} {w : World} {b off n cap : Nat} {xs : List Int} (h : Sl k w (.slice (some ⟨b, off, none⟩) n cap) xs) (i : Nat) (hi : i < xs.length) : w.cell? ⟨b, off + i, none⟩ = some (.int k (xs.getD i 0)) := by
  obtain ⟨a, c, hv, hc⟩ := h
  obtain ⟨b', off', ha, _, hx⟩ := hc (by intro e; rw [e] at hi; simp at hi)
  subst ha
  simp at hv
  obtain ⟨⟨rfl, rfl⟩, _⟩ := hv
  exact hx i hi
theorem open_seal (v : Value) (ys : List Int) (w : World) (hf : Fits v) (h : Sl .u8 w v (sealL ys)) (hy : BytesL ys) (hl : ys.length ≤ 158) :
    Calls Try.prog 11 #[v] w fun e w' => ∃ v', e = .returned (.agg #[.int .i64 0, v']) ∧ OwB w.heap.size w' v' ys ∧ Below w.heap.size w w' := by
  have := implOpen_calls v (sealL ys) w hf h (sealL_bd hy)
  rw [(op_seal ys hl).1, (op_seal ys hl).2] at this
  exact this
theorem lw_same (v1 v2 : Value) (ys : List Int) (w : World) (h1 : Sl .u8 w v1 ys) (h2 : Sl .u8 w v2 ys) (hy : BytesL ys) :
    Calls Try.prog 14 #[v1, v2] w fun e w' => e = .returned (.bool true) ∧ w' = w := by
  have := lwBytes_calls v1 v2 ys ys w h1 h2 hy hy
  rwa [show decide (ys = ys) = true by simp] at this
theorem crc_ok (ys : List Int) (h : ys.length ≤ 158) : crC ys = 0 ∧ crV ys = crc ys := ⟨if_neg (by omega), if_neg (by omega)⟩
/-- .. and what the sum's answer tells. -/
def KS2 (w : World) (p q r : Nat) (c : Int) (vs vo D O : Value) (c2 : Int) (ss oo ys zs : List Int) (W : World) : Prop :=
  KS w p q 0 c2 vs vo D O ss oo ys zs W ∧ W.cell? ⟨r, 0, none⟩ = some (.int .i64 0) ∧ W.cell? ⟨r, 1, none⟩ = some (.int .i64 c) ∧ r < W.heap.size
theorem KS2.later {w : World} {p q r : Nat} {c : Int} {vs vo D O : Value} {c2 : Int} {ss oo ys zs : List Int} {W W' : World} (h : KS2 w p q r c vs vo D O c2 ss oo ys zs W) (hb : Below W.heap.size W W') : KS2 w p q r c vs vo D O c2 ss oo ys zs W' :=
  ⟨h.1.later hb, (hb.cell (p := ⟨r, 0, none⟩) h.2.2.2).trans h.2.1, (hb.cell (p := ⟨r, 1, none⟩) h.2.2.2).trans h.2.2.1, Nat.lt_of_lt_of_le h.2.2.2 hb.size⟩
theorem wraps (n : Nat) (hn : n ≤ 158) : IntKind.i64.wrap ((n : Int) + 1) = (n : Int) + 1 ∧ IntKind.i64.wrap ((n : Int) + 2) = (n : Int) + 2 :=
  ⟨wrapk_of (by omega) (by omega), wrapk_of (by omega) (by omega)⟩
theorem wraps_all (c : Nat) (hc : c < 65536) : (IntKind.i64.wrap (IntKind.i64.wrap (IntKind.i64.wrap ((c : Int) / 256) * 256) + IntKind.i64.wrap ((c : Int) % 256)) == (c : Int)) = true := by
  rw [wrapk_of (x := (c : Int) / 256) (by omega) (by omega), wrapk_of (x := (c : Int) % 256) (by omega) (by omega), wrapk_of (x := (c : Int) / 256 * 256) (by omega) (by omega), wrapk_of (by omega) (by omega)]
  simp
  omega

theorem fieldB0 (c v : Value) (w : World) : (Instr.field 26 (.agg #[c, v]) 0).run Try.prog w = .ok c w := by kernel_rfl
theorem fieldB1 (c v : Value) (w : World) : (Instr.field 26 (.agg #[c, v]) 1).run Try.prog w = .ok v w := by kernel_rfl
attribute [local go_sem] fieldB0 fieldB1
attribute [local go_sem ↓] Go.wp_at_zero Go.wp_at_succ

set_option maxRecDepth 100000 in
set_option maxHeartbeats 2000000 in
theorem fnSeals_calls (a : Option Addr) (cap : Nat) (bs : List Int) (w : World) (hsl : Sl .u8 w (.slice a bs.length cap) bs) (hbd : ∀ x ∈ bs, 0 ≤ x ∧ x ≤ 255) :
    Calls Try.prog 3 #[.slice a bs.length cap] w fun e w' => e = .returned (.bool true) ∧ Below w.heap.size w w' := by
  by_cases hbig : 1048576 < bs.length
  · have hb' : (1048576 : Int) < bs.length := by omega
    clear hsl hbd
    go_enter Try.func3, Try.ntmps3
    go_wp2
    go_ret
    exact ⟨rfl, Below.refl _ _⟩
  · have hb' : (bs.length : Int) ≤ 1048576 := by omega
    have H1 := hid (fun w' (hb : Below w.heap.size w w') => drawSeal_calls a cap bs w' (hsl.later hb) hbd (by omega))
    have H2 := hid (fun w' (hb : Below w.heap.size w w') => drawOpen_calls a cap bs w' (hsl.later hb) hbd (by omega))
    clear hsl hbd
    go_enter Try.func3, Try.ntmps3
    go_wp2_with (first | (go_at_call 7; go_in) | fail)
    refine (H1.out _ (Below.refl _ _)).mono ?_
    rintro e w1 ⟨gd, cd, n, ys, rfl, hoD, hyl, hn, hyb, hb1⟩
    subst hyl
    have HD := hid hoD.sl
    clear H1
    go_wp2_with fail
    refine (implSeal_calls _ ys _ HD.out hyb).mono ?_
    rintro e w2 ⟨vs, rfl, hoS, hb2⟩
    have HS := hid hoS.sl
    have hfS := hoS.fits
    have hb02 := bthen hb1 hb2
    have hbd2 := hb2
    obtain ⟨aS, cS, rfl, _⟩ := hoS.sl
    clear hoS hoD
    go_wp2_with fail
    refine (H2.out _ (bmore hb02 _)).mono ?_
    rintro e w3 ⟨go, co, m, zs, rfl, hoO, hzl, hm, hzb, hb3⟩
    subst hzl
    have HO := hid hoO.sl
    have hfO := hoO.fits
    have hb03 := bthen (bmore hb02 _) hb3
    clear H2 hoO
    go_wp2_with fail
    refine (implOpen_calls _ zs _ hfO HO.out hzb).mono ?_
    rintro e w4 ⟨vo, rfl, hoP, hb4⟩
    obtain ⟨ap, cp, rfl, _⟩ := hoP.sl
    have hs2 : w2.heap.size + 1 ≤ w3.heap.size := by have := hb3.size; simpa using this
    have hs4 := hb4.size
    have hb25 := bmore (bthen hb3 hb4) (.cells #[.int .i64 (opC zs), .slice ap (opL zs).length cp] 26)
    have K5 : KS w w2.heap.size w4.heap.size (seC ys) (opC zs) (.slice aS (seL ys).length cS) (.slice ap (opL zs).length cp) (.slice (some ⟨gd, 0, none⟩) ys.length cd) (.slice (some ⟨go, 0, none⟩) zs.length co) (seL ys) (opL zs) ys zs (w4.alloc (.cells #[.int .i64 (opC zs), .slice ap (opL zs).length cp] 26)) := by
      refine ⟨?_, ?_, by simp, by simp, (HS.out.later (bmore (Below.refl _ _) _)).later hb25, hoP.sl.later (bmore (Below.refl _ _) _), ((HD.out.later hb2).later (bmore (Below.refl _ _) _)).later hb25, HO.out.later (bmore hb4 _), by simp; omega, by simp, bthen (bmore hb02 _) hb25⟩
      · rw [hb25.cell (p := ⟨w2.heap.size, 0, none⟩) (by simp)]; simp
      · rw [hb25.cell (p := ⟨w2.heap.size, 1, none⟩) (by simp)]; simp
    have K5d := K5.later (Below.refl _ _).drew
    clear hb1 hb2 hb02 hb3 hb03 hb4 hb25 HS HO HD hoP hs2 hs4 hbd2
    go_wp2_with fail
    generalize w2.heap.size = p at *
    generalize w4.heap.size = q at *
    refine wp_region_noPanic ?_
    refine wp_region_held_drew (S := (KS w p q (seC ys) (opC zs) (.slice aS (seL ys).length cS) (.slice ap (opL zs).length cp) (.slice (some ⟨gd, 0, none⟩) ys.length cd) (.slice (some ⟨go, 0, none⟩) zs.length co) (seL ys) (opL zs) ys zs)) (by kernel_rfl) ?_ (fun hHeld => ?_)
    · assumption
    (refine wpAnyH_take (i := 0) (v := ?_) rfl (by kernel_rfl) (by kernel_rfl) (by kernel_rfl) (fun _ _ _ h => h) (Or.inl ⟨by rfl, ?_⟩) hHeld ?_; rotate_left; (intro w hSw; have k1 := hSw.p0; have k2 := hSw.q0; clear hSw; (go_simp <;> with_reducible rfl)); simp only [List.getElem_toArray, List.getElem_cons_zero, Act.put, List.setIfInBounds_toArray, List.set_cons_zero, List.set_cons_succ])
    (refine wpAnyH_take (i := 1) (v := ?_) rfl (by kernel_rfl) (by kernel_rfl) (by kernel_rfl) (fun _ _ _ h => h) (Or.inl ⟨by rfl, ?_⟩) hHeld ?_; rotate_left; (intro w hSw; have k1 := hSw.p0; have k2 := hSw.q0; clear hSw; (go_simp <;> with_reducible rfl)); simp only [List.getElem_toArray, List.getElem_cons_zero, List.getElem_cons_succ, Act.put, List.setIfInBounds_toArray, List.set_cons_zero, List.set_cons_succ])
    (refine wpAnyH_take (i := 2) (v := ?_) rfl (by kernel_rfl) (by kernel_rfl) (by kernel_rfl) (fun _ _ _ h => h) (Or.inl ⟨by rfl, ?_⟩) hHeld ?_; rotate_left; (intro w hSw; have k1 := hSw.p0; have k2 := hSw.q0; clear hSw; (go_simp <;> with_reducible rfl)); simp only [List.getElem_toArray, List.getElem_cons_zero, List.getElem_cons_succ, Act.put, List.setIfInBounds_toArray, List.set_cons_zero, List.set_cons_succ])
    (refine wpAnyH_ready (rs := [3]) (by kernel_rfl) (by simp) ?_; refine AllReadyH.cons rfl (fun K hK => ?_) AllReadyH.nil; go_simp; (refine (specSeal_calls _ ys _ hHeld.sD hyb).mono ?_; rintro e w' ⟨v1, rfl, _, hb1⟩; have hK' := hHeld.later hb1); refine hK.out _ _ ?_ (fun hHeld => ?_); (assumption); clear hK K; try simp only [List.getElem_toArray, List.getElem_cons_zero, List.getElem_cons_succ, Act.put, List.setIfInBounds_toArray, List.set_cons_zero, List.set_cons_succ])
    (refine wpAnyH_take (i := 4) (v := ?_) rfl (by kernel_rfl) (by kernel_rfl) (by kernel_rfl) (fun _ _ _ h => h) (Or.inl ⟨by rfl, ?_⟩) hHeld ?_; rotate_left; (intro w hSw; have k1 := hSw.p0; have k2 := hSw.q0; clear hSw; (go_simp <;> with_reducible rfl)); simp only [List.getElem_toArray, List.getElem_cons_zero, List.getElem_cons_succ, Act.put, List.setIfInBounds_toArray, List.set_cons_zero, List.set_cons_succ])
    (refine wpAnyH_take (i := 5) (v := ?_) rfl (by kernel_rfl) (by kernel_rfl) (by kernel_rfl) (fun _ _ _ h => h) (Or.inl ⟨by rfl, ?_⟩) hHeld ?_; rotate_left; (intro w hSw; have k1 := hSw.p0; have k2 := hSw.q0; clear hSw; (go_simp <;> with_reducible rfl)); simp only [List.getElem_toArray, List.getElem_cons_zero, List.getElem_cons_succ, Act.put, List.setIfInBounds_toArray, List.set_cons_zero, List.set_cons_succ])
    (refine wpAnyH_take (i := 6) (v := ?_) rfl (by kernel_rfl) (by kernel_rfl) (by kernel_rfl) (fun _ _ _ h => h) (Or.inl ⟨by rfl, ?_⟩) hHeld ?_; rotate_left; (intro w hSw; have k1 := hSw.p0; have k2 := hSw.q0; clear hSw; (go_simp <;> with_reducible rfl)); simp only [List.getElem_toArray, List.getElem_cons_zero, List.getElem_cons_succ, Act.put, List.setIfInBounds_toArray, List.set_cons_zero, List.set_cons_succ])
    first | (refine wpAnyH_take (i := 7) (v := ?_) rfl (by kernel_rfl) (by kernel_rfl) (by kernel_rfl) (fun _ _ _ h => h) (Or.inl ⟨by rfl, ?_⟩) hHeld ?_; rotate_left; (intro w hSw; have k1 := hSw.p0; have k2 := hSw.q0; clear hSw; (go_simp <;> with_reducible rfl)); simp only [List.getElem_toArray, List.getElem_cons_zero, List.getElem_cons_succ, Act.put, List.setIfInBounds_toArray, List.set_cons_zero, List.set_cons_succ]) | (refine wpAnyH_take (i := 7) (v := undef) rfl (by kernel_rfl) (by kernel_rfl) (by kernel_rfl) (fun _ _ _ h => h) (Or.inr ⟨by rfl, rfl⟩) hHeld ?_; simp only [List.getElem_toArray, List.getElem_cons_zero, List.getElem_cons_succ, Act.put, List.setIfInBounds_toArray, List.set_cons_zero, List.set_cons_succ])
    first | (refine wpAnyH_take (i := 8) (v := ?_) rfl (by kernel_rfl) (by kernel_rfl) (by kernel_rfl) (fun _ _ _ h => h) (Or.inl ⟨by rfl, ?_⟩) hHeld ?_; rotate_left; (intro w hSw; have k1 := hSw.p0; have k2 := hSw.q0; clear hSw; (go_simp <;> with_reducible rfl)); simp only [List.getElem_toArray, List.getElem_cons_zero, List.getElem_cons_succ, Act.put, List.setIfInBounds_toArray, List.set_cons_zero, List.set_cons_succ]) | (refine wpAnyH_take (i := 8) (v := undef) rfl (by kernel_rfl) (by kernel_rfl) (by kernel_rfl) (fun _ _ _ h => h) (Or.inr ⟨by rfl, rfl⟩) hHeld ?_; simp only [List.getElem_toArray, List.getElem_cons_zero, List.getElem_cons_succ, Act.put, List.setIfInBounds_toArray, List.set_cons_zero, List.set_cons_succ])
    first | (refine wpAnyH_take (i := 9) (v := ?_) rfl (by kernel_rfl) (by kernel_rfl) (by kernel_rfl) (fun _ _ _ h => h) (Or.inl ⟨by rfl, ?_⟩) hHeld ?_; rotate_left; (intro w hSw; have k1 := hSw.p0; have k2 := hSw.q0; clear hSw; (go_simp <;> with_reducible rfl)); simp only [List.getElem_toArray, List.getElem_cons_zero, List.getElem_cons_succ, Act.put, List.setIfInBounds_toArray, List.set_cons_zero, List.set_cons_succ]) | (refine wpAnyH_take (i := 9) (v := undef) rfl (by kernel_rfl) (by kernel_rfl) (by kernel_rfl) (fun _ _ _ h => h) (Or.inr ⟨by rfl, rfl⟩) hHeld ?_; simp only [List.getElem_toArray, List.getElem_cons_zero, List.getElem_cons_succ, Act.put, List.setIfInBounds_toArray, List.set_cons_zero, List.set_cons_succ])
    first | (refine wpAnyH_take (i := 10) (v := undef) rfl (by kernel_rfl) (by kernel_rfl) (by kernel_rfl) (fun _ _ _ h => h) (Or.inr ⟨by rfl, rfl⟩) hHeld ?_; simp only [List.getElem_toArray, List.getElem_cons_zero, List.getElem_cons_succ, Act.put, List.setIfInBounds_toArray, List.set_cons_zero, List.set_cons_succ]) | (refine wpAnyH_ready (rs := [10]) (by kernel_rfl) (by simp) ?_; refine AllReadyH.cons rfl (fun K hK => ?_) AllReadyH.nil; go_simp; (refine (specOpen_calls _ zs _ hfO hHeld.sO hzb).mono ?_; rintro e w' ⟨v1, rfl, _, hb1⟩; have hK' := hHeld.later hb1); refine hK.out _ _ ?_ (fun hHeld => ?_); (assumption); clear hK K; try simp only [List.getElem_toArray, List.getElem_cons_zero, List.getElem_cons_succ, Act.put, List.setIfInBounds_toArray, List.set_cons_zero, List.set_cons_succ])
    first | (refine wpAnyH_take (i := 11) (v := ?_) rfl (by kernel_rfl) (by kernel_rfl) (by kernel_rfl) (fun _ _ _ h => h) (Or.inl ⟨by rfl, ?_⟩) hHeld ?_; rotate_left; (intro w hSw; have k1 := hSw.p0; have k2 := hSw.q0; clear hSw; (go_simp <;> with_reducible rfl)); simp only [List.getElem_toArray, List.getElem_cons_zero, List.getElem_cons_succ, Act.put, List.setIfInBounds_toArray, List.set_cons_zero, List.set_cons_succ]) | (refine wpAnyH_take (i := 11) (v := undef) rfl (by kernel_rfl) (by kernel_rfl) (by kernel_rfl) (fun _ _ _ h => h) (Or.inr ⟨by rfl, rfl⟩) hHeld ?_; simp only [List.getElem_toArray, List.getElem_cons_zero, List.getElem_cons_succ, Act.put, List.setIfInBounds_toArray, List.set_cons_zero, List.set_cons_succ])
    first | (refine wpAnyH_take (i := 12) (v := ?_) rfl (by kernel_rfl) (by kernel_rfl) (by kernel_rfl) (fun _ _ _ h => h) (Or.inl ⟨by rfl, ?_⟩) hHeld ?_; rotate_left; (intro w hSw; have k1 := hSw.p0; have k2 := hSw.q0; clear hSw; (go_simp <;> with_reducible rfl)); simp only [List.getElem_toArray, List.getElem_cons_zero, List.getElem_cons_succ, Act.put, List.setIfInBounds_toArray, List.set_cons_zero, List.set_cons_succ]) | (refine wpAnyH_take (i := 12) (v := undef) rfl (by kernel_rfl) (by kernel_rfl) (by kernel_rfl) (fun _ _ _ h => h) (Or.inr ⟨by rfl, rfl⟩) hHeld ?_; simp only [List.getElem_toArray, List.getElem_cons_zero, List.getElem_cons_succ, Act.put, List.setIfInBounds_toArray, List.set_cons_zero, List.set_cons_succ])
    (refine wpAnyH_take (i := 13) (v := ?_) rfl (by kernel_rfl) (by kernel_rfl) (by kernel_rfl) (fun _ _ _ h => h) (Or.inl ⟨by rfl, ?_⟩) hHeld ?_; rotate_left; (intro w hSw; have k1 := hSw.p0; have k2 := hSw.q0; clear hSw; (go_simp <;> with_reducible rfl)); simp only [List.getElem_toArray, List.getElem_cons_zero, List.getElem_cons_succ, Act.put, List.setIfInBounds_toArray, List.set_cons_zero, List.set_cons_succ])
    refine wpAnyH_done (by kernel_rfl) ?_ _
    refine NoPanic.normal ?_
    clear K5 K5d
    go_upto_region 9 with fail
    go_cut [44] (fun t wc => t = .bool false ∧ KS w p q (seC ys) (opC zs) (.slice aS (seL ys).length cS) (.slice ap (opL zs).length cp) (.slice (some ⟨gd, 0, none⟩) ys.length cd) (.slice (some ⟨go, 0, none⟩) zs.length co) (seL ys) (opL zs) ys zs wc)
    case first =>
      have r0 := hHeld.q0
      have r1 := hHeld.q1
      by_cases hz : opC zs = 0
      · obtain ⟨z1, z2, z3, z4, z5⟩ := op_zero hz
        have e0 : (opC zs == 0) = true := by rw [hz]; rfl
        have hob : BytesL (opL zs) := by rw [z4]; exact take_bd hzb _
        have hsl : seL (opL zs) = zs := by rw [z4]; exact z5
        have HK := hid hHeld
        have Hse := hid hsl
        clear z1 z2 z3 z4 z5 hz hHeld hsl
        generalize opC zs = c2 at *
        go_wp2_with fail
        refine (implSeal_calls _ (opL zs) _ HK.out.sP hob).mono ?_
        rintro e w6 ⟨v6, rfl, ho6, hb6⟩
        have HK6 := hid (HK.out.later hb6)
        have Ho6 := hid ho6.sl
        rw [Hse.out] at Ho6
        clear ho6 hb6
        go_wp2_with fail
        refine (lwBytes_calls _ _ zs zs _ Ho6.out HK6.out.sO hzb hzb).mono ?_
        rintro e w7 ⟨rfl, hw7⟩
        subst hw7
        have ht : decide (zs = zs) = true := by simp
        go_wp2_with fail
        go_meet
        case rel => exact ⟨rfl, HK6.out⟩
      · have e0 : (opC zs == 0) = false := by simpa using hz
        have HK := hid hHeld
        clear hz hHeld
        generalize opC zs = c2 at *
        go_wp2_with fail
        go_meet
        case rel => exact ⟨rfl, HK.out⟩
    case rest =>
      obtain ⟨rfl, hK⟩ := hcut
      clear hHeld hK' hb1
      by_cases hse : 158 < ys.length
      · have e1 : (seC ys != 0) = true := by rw [show seC ys = 2 from if_pos hse]; rfl
        have r0 := hK.p0
        have HB := hid hK.bel
        clear hK hse
        generalize seC ys = c1 at *
        go_wp2
        go_ret
        exact ⟨rfl, HB.out⟩
      · have hsc : seC ys = 0 := if_neg hse
        have hsL : seL ys = sealL ys := if_neg hse
        have hl : (seL ys).length = ys.length + 2 := by rw [hsL, sealL_len]
        have hn158 : ys.length ≤ 158 := by omega
        rw [hsc, hl, hsL] at hK
        rw [hl] at hfS
        clear hsc hsL hl hse
        have hsS := hK.sS
        obtain ⟨a', c', hv, hc⟩ := hsS
        obtain ⟨b, off, ha, _, _⟩ := hc (by intro e; have := sealL_len ys; rw [e] at this; simp at this)
        simp at hv
        obtain ⟨hv1, hv2, hv3⟩ := hv
        subst hv1
        subst ha
        clear hc hv2 hv3
        have r0 := hK.p0
        have HK := hid hK
        clear hK
        go_wp2_with fail
        refine (implCrcOf_calls _ ys _ HK.out.sD hyb).mono ?_
        rw [(crc_ok ys hn158).1, (crc_ok ys hn158).2]
        rintro e w8 ⟨rfl, hb8⟩
        have HK8 := hid (HK.out.later hb8)
        have hcl := crc_lt ys
        have K9 : (KS2 w p q w8.heap.size (crc ys) (.slice (some ⟨b, off, none⟩) (ys.length + 2) cS) (.slice ap (opL zs).length cp) (.slice (some ⟨gd, 0, none⟩) ys.length cd) (.slice (some ⟨go, 0, none⟩) zs.length co) (opC zs) (sealL ys) (opL zs) ys zs) (w8.alloc (.cells #[.int .i64 0, .int .i64 (crc ys)] 30)).drew := ⟨(HK8.out.later (bmore (Below.refl _ _) _)).later (Below.refl _ _).drew, by simp, by simp, by simp⟩
        clear HK HK8 hb8 r0
        go_wp2_with fail
        generalize w8.heap.size = r at *
        obtain ⟨v3, v4⟩ := wraps ys.length hn158
        have hk1 := seal_last ys
        have hkl := sealL_len ys
        have Hk := hid hk1
        have Hkl := hid hkl
        clear hk1 hkl
        have i1 : (0 : Int) ≤ (ys.length : Int) := by omega
        have i2 : (ys.length : Int) < (ys.length : Int) + 2 := by omega
        have i3 : (0 : Int) ≤ (ys.length : Int) + 1 := by omega
        have i4 : (ys.length : Int) + 1 < (ys.length : Int) + 2 := by omega
        refine wp_region_noPanic ?_
        refine wp_region_held_drew (S := (KS2 w p q r (crc ys) (.slice (some ⟨b, off, none⟩) (ys.length + 2) cS) (.slice ap (opL zs).length cp) (.slice (some ⟨gd, 0, none⟩) ys.length cd) (.slice (some ⟨go, 0, none⟩) zs.length co) (opC zs) (sealL ys) (opL zs) ys zs)) (by kernel_rfl) ?_ (fun hHeld => ?_)
        · assumption
        (refine wpAnyH_take (i := 0) (v := ?_) rfl (by kernel_rfl) (by kernel_rfl) (by kernel_rfl) (fun _ _ _ h => h) (Or.inl ⟨by rfl, ?_⟩) hHeld ?_; rotate_left; (intro w hSw; have k1 := hSw.1.p0; have k2 := hSw.1.p1; have k3 := hSw.2.1; have k4 := hSw.2.2.1; have k5 := sl_atO hSw.1.sS ys.length (by have := Hkl.out; omega); have k6 := sl_atO hSw.1.sS (ys.length + 1) (by have := Hkl.out; omega); rw [Hk.out.1] at k5; rw [Hk.out.2] at k6; clear hSw; (go_simp <;> with_reducible rfl)); simp only [List.getElem_toArray, List.getElem_cons_zero, Act.put, List.setIfInBounds_toArray, List.set_cons_zero, List.set_cons_succ])
        (refine wpAnyH_take (i := 1) (v := ?_) rfl (by kernel_rfl) (by kernel_rfl) (by kernel_rfl) (fun _ _ _ h => h) (Or.inl ⟨by rfl, ?_⟩) hHeld ?_; rotate_left; (intro w hSw; have k1 := hSw.1.p0; have k2 := hSw.1.p1; have k3 := hSw.2.1; have k4 := hSw.2.2.1; have k5 := sl_atO hSw.1.sS ys.length (by have := Hkl.out; omega); have k6 := sl_atO hSw.1.sS (ys.length + 1) (by have := Hkl.out; omega); rw [Hk.out.1] at k5; rw [Hk.out.2] at k6; clear hSw; (go_simp <;> with_reducible rfl)); simp only [List.getElem_toArray, List.getElem_cons_zero, List.getElem_cons_succ, Act.put, List.setIfInBounds_toArray, List.set_cons_zero, List.set_cons_succ])
        (refine wpAnyH_take (i := 4) (v := ?_) rfl (by kernel_rfl) (by kernel_rfl) (by kernel_rfl) (fun _ _ _ h => h) (Or.inl ⟨by rfl, ?_⟩) hHeld ?_; rotate_left; (intro w hSw; have k1 := hSw.1.p0; have k2 := hSw.1.p1; have k3 := hSw.2.1; have k4 := hSw.2.2.1; have k5 := sl_atO hSw.1.sS ys.length (by have := Hkl.out; omega); have k6 := sl_atO hSw.1.sS (ys.length + 1) (by have := Hkl.out; omega); rw [Hk.out.1] at k5; rw [Hk.out.2] at k6; clear hSw; (go_simp <;> with_reducible rfl)); simp only [List.getElem_toArray, List.getElem_cons_zero, List.getElem_cons_succ, Act.put, List.setIfInBounds_toArray, List.set_cons_zero, List.set_cons_succ])
        (refine wpAnyH_ready (rs := [2]) (by kernel_rfl) (by simp) ?_; refine AllReadyH.cons rfl (fun K hK => ?_) AllReadyH.nil; go_simp; (refine (open_seal _ ys _ hfS hHeld.1.sS hyb hn158).mono ?_; rintro e w' ⟨vv, rfl, ho1, hb1⟩; have hK' := hHeld.later hb1); refine hK.out _ _ ?_ (fun hHeld => ?_); (assumption); clear hK K; try simp only [List.getElem_toArray, List.getElem_cons_zero, List.getElem_cons_succ, Act.put, List.setIfInBounds_toArray, List.set_cons_zero, List.set_cons_succ])
        (refine wpAnyH_take (i := 3) (v := ?_) rfl (by kernel_rfl) (by kernel_rfl) (by kernel_rfl) (fun _ _ _ h => h) (Or.inl ⟨by rfl, ?_⟩) hHeld ?_; rotate_left; (intro w hSw; have k1 := hSw.1.p0; have k2 := hSw.1.p1; have k3 := hSw.2.1; have k4 := hSw.2.2.1; have k5 := sl_atO hSw.1.sS ys.length (by have := Hkl.out; omega); have k6 := sl_atO hSw.1.sS (ys.length + 1) (by have := Hkl.out; omega); rw [Hk.out.1] at k5; rw [Hk.out.2] at k6; clear hSw; (go_simp <;> with_reducible rfl)); simp only [List.getElem_toArray, List.getElem_cons_zero, List.getElem_cons_succ, Act.put, List.setIfInBounds_toArray, List.set_cons_zero, List.set_cons_succ])
        (refine wpAnyH_ready (rs := [5]) (by kernel_rfl) (by simp) ?_; refine AllReadyH.cons rfl (fun K hK => ?_) AllReadyH.nil; go_simp; (refine (lw_same _ _ ys _ ho1.sl hHeld.1.sD hyb).mono ?_; rintro e w'' ⟨rfl, hw''⟩; subst hw''); refine hK.out _ _ ?_ (fun hHeld => ?_); (assumption); clear hK K; try simp only [List.getElem_toArray, List.getElem_cons_zero, List.getElem_cons_succ, Act.put, List.setIfInBounds_toArray, List.set_cons_zero, List.set_cons_succ])
        (refine wpAnyH_take (i := 6) (v := ?_) rfl (by kernel_rfl) (by kernel_rfl) (by kernel_rfl) (fun _ _ _ h => h) (Or.inl ⟨by rfl, ?_⟩) hHeld ?_; rotate_left; (intro w hSw; have k1 := hSw.1.p0; have k2 := hSw.1.p1; have k3 := hSw.2.1; have k4 := hSw.2.2.1; have k5 := sl_atO hSw.1.sS ys.length (by have := Hkl.out; omega); have k6 := sl_atO hSw.1.sS (ys.length + 1) (by have := Hkl.out; omega); rw [Hk.out.1] at k5; rw [Hk.out.2] at k6; clear hSw; (go_simp <;> with_reducible rfl)); simp only [List.getElem_toArray, List.getElem_cons_zero, List.getElem_cons_succ, Act.put, List.setIfInBounds_toArray, List.set_cons_zero, List.set_cons_succ])
        first | (refine wpAnyH_take (i := 7) (v := ?_) rfl (by kernel_rfl) (by kernel_rfl) (by kernel_rfl) (fun _ _ _ h => h) (Or.inl ⟨by rfl, ?_⟩) hHeld ?_; rotate_left; (intro w hSw; have k1 := hSw.1.p0; have k2 := hSw.1.p1; have k3 := hSw.2.1; have k4 := hSw.2.2.1; have k5 := sl_atO hSw.1.sS ys.length (by have := Hkl.out; omega); have k6 := sl_atO hSw.1.sS (ys.length + 1) (by have := Hkl.out; omega); rw [Hk.out.1] at k5; rw [Hk.out.2] at k6; clear hSw; (go_simp <;> with_reducible rfl)); simp only [List.getElem_toArray, List.getElem_cons_zero, List.getElem_cons_succ, Act.put, List.setIfInBounds_toArray, List.set_cons_zero, List.set_cons_succ]) | (refine wpAnyH_take (i := 7) (v := undef) rfl (by kernel_rfl) (by kernel_rfl) (by kernel_rfl) (fun _ _ _ h => h) (Or.inr ⟨by rfl, rfl⟩) hHeld ?_; simp only [List.getElem_toArray, List.getElem_cons_zero, List.getElem_cons_succ, Act.put, List.setIfInBounds_toArray, List.set_cons_zero, List.set_cons_succ])
        first | (refine wpAnyH_take (i := 8) (v := ?_) rfl (by kernel_rfl) (by kernel_rfl) (by kernel_rfl) (fun _ _ _ h => h) (Or.inl ⟨by rfl, ?_⟩) hHeld ?_; rotate_left; (intro w hSw; have k1 := hSw.1.p0; have k2 := hSw.1.p1; have k3 := hSw.2.1; have k4 := hSw.2.2.1; have k5 := sl_atO hSw.1.sS ys.length (by have := Hkl.out; omega); have k6 := sl_atO hSw.1.sS (ys.length + 1) (by have := Hkl.out; omega); rw [Hk.out.1] at k5; rw [Hk.out.2] at k6; clear hSw; (go_simp <;> with_reducible rfl)); simp only [List.getElem_toArray, List.getElem_cons_zero, List.getElem_cons_succ, Act.put, List.setIfInBounds_toArray, List.set_cons_zero, List.set_cons_succ]) | (refine wpAnyH_take (i := 8) (v := undef) rfl (by kernel_rfl) (by kernel_rfl) (by kernel_rfl) (fun _ _ _ h => h) (Or.inr ⟨by rfl, rfl⟩) hHeld ?_; simp only [List.getElem_toArray, List.getElem_cons_zero, List.getElem_cons_succ, Act.put, List.setIfInBounds_toArray, List.set_cons_zero, List.set_cons_succ])
        first | (refine wpAnyH_take (i := 9) (v := undef) rfl (by kernel_rfl) (by kernel_rfl) (by kernel_rfl) (fun _ _ _ h => h) (Or.inr ⟨by rfl, rfl⟩) hHeld ?_; simp only [List.getElem_toArray, List.getElem_cons_zero, List.getElem_cons_succ, Act.put, List.setIfInBounds_toArray, List.set_cons_zero, List.set_cons_succ]) | (refine wpAnyH_ready (rs := [9]) (by kernel_rfl) (by simp) ?_; refine AllReadyH.cons rfl (fun K hK => ?_) AllReadyH.nil; go_simp; (refine (open_seal _ ys _ hfS hHeld.1.sS hyb hn158).mono ?_; rintro e w' ⟨vv, rfl, ho1, hb1⟩; have hK' := hHeld.later hb1); refine hK.out _ _ ?_ (fun hHeld => ?_); (assumption); clear hK K; try simp only [List.getElem_toArray, List.getElem_cons_zero, List.getElem_cons_succ, Act.put, List.setIfInBounds_toArray, List.set_cons_zero, List.set_cons_succ])
        first | (refine wpAnyH_take (i := 10) (v := ?_) rfl (by kernel_rfl) (by kernel_rfl) (by kernel_rfl) (fun _ _ _ h => h) (Or.inl ⟨by rfl, ?_⟩) hHeld ?_; rotate_left; (intro w hSw; have k1 := hSw.1.p0; have k2 := hSw.1.p1; have k3 := hSw.2.1; have k4 := hSw.2.2.1; have k5 := sl_atO hSw.1.sS ys.length (by have := Hkl.out; omega); have k6 := sl_atO hSw.1.sS (ys.length + 1) (by have := Hkl.out; omega); rw [Hk.out.1] at k5; rw [Hk.out.2] at k6; clear hSw; (go_simp <;> with_reducible rfl)); simp only [List.getElem_toArray, List.getElem_cons_zero, List.getElem_cons_succ, Act.put, List.setIfInBounds_toArray, List.set_cons_zero, List.set_cons_succ]) | (refine wpAnyH_take (i := 10) (v := undef) rfl (by kernel_rfl) (by kernel_rfl) (by kernel_rfl) (fun _ _ _ h => h) (Or.inr ⟨by rfl, rfl⟩) hHeld ?_; simp only [List.getElem_toArray, List.getElem_cons_zero, List.getElem_cons_succ, Act.put, List.setIfInBounds_toArray, List.set_cons_zero, List.set_cons_succ])
        first | (refine wpAnyH_take (i := 11) (v := ?_) rfl (by kernel_rfl) (by kernel_rfl) (by kernel_rfl) (fun _ _ _ h => h) (Or.inl ⟨by rfl, ?_⟩) hHeld ?_; rotate_left; (intro w hSw; have k1 := hSw.1.p0; have k2 := hSw.1.p1; have k3 := hSw.2.1; have k4 := hSw.2.2.1; have k5 := sl_atO hSw.1.sS ys.length (by have := Hkl.out; omega); have k6 := sl_atO hSw.1.sS (ys.length + 1) (by have := Hkl.out; omega); rw [Hk.out.1] at k5; rw [Hk.out.2] at k6; clear hSw; (go_simp <;> with_reducible rfl)); simp only [List.getElem_toArray, List.getElem_cons_zero, List.getElem_cons_succ, Act.put, List.setIfInBounds_toArray, List.set_cons_zero, List.set_cons_succ]) | (refine wpAnyH_take (i := 11) (v := undef) rfl (by kernel_rfl) (by kernel_rfl) (by kernel_rfl) (fun _ _ _ h => h) (Or.inr ⟨by rfl, rfl⟩) hHeld ?_; simp only [List.getElem_toArray, List.getElem_cons_zero, List.getElem_cons_succ, Act.put, List.setIfInBounds_toArray, List.set_cons_zero, List.set_cons_succ])
        (refine wpAnyH_take (i := 12) (v := ?_) rfl (by kernel_rfl) (by kernel_rfl) (by kernel_rfl) (fun _ _ _ h => h) (Or.inl ⟨by rfl, ?_⟩) hHeld ?_; rotate_left; (intro w hSw; have k1 := hSw.1.p0; have k2 := hSw.1.p1; have k3 := hSw.2.1; have k4 := hSw.2.2.1; have k5 := sl_atO hSw.1.sS ys.length (by have := Hkl.out; omega); have k6 := sl_atO hSw.1.sS (ys.length + 1) (by have := Hkl.out; omega); rw [Hk.out.1] at k5; rw [Hk.out.2] at k6; clear hSw; (go_simp <;> with_reducible rfl)); simp only [List.getElem_toArray, List.getElem_cons_zero, List.getElem_cons_succ, Act.put, List.setIfInBounds_toArray, List.set_cons_zero, List.set_cons_succ])
        (refine wpAnyH_take (i := 13) (v := ?_) rfl (by kernel_rfl) (by kernel_rfl) (by kernel_rfl) (fun _ _ _ h => h) (Or.inl ⟨by rfl, ?_⟩) hHeld ?_; rotate_left; (intro w hSw; have k1 := hSw.1.p0; have k2 := hSw.1.p1; have k3 := hSw.2.1; have k4 := hSw.2.2.1; have k5 := sl_atO hSw.1.sS ys.length (by have := Hkl.out; omega); have k6 := sl_atO hSw.1.sS (ys.length + 1) (by have := Hkl.out; omega); rw [Hk.out.1] at k5; rw [Hk.out.2] at k6; clear hSw; (go_simp <;> with_reducible rfl)); simp only [List.getElem_toArray, List.getElem_cons_zero, List.getElem_cons_succ, Act.put, List.setIfInBounds_toArray, List.set_cons_zero, List.set_cons_succ])
        first | (refine wpAnyH_take (i := 14) (v := ?_) rfl (by kernel_rfl) (by kernel_rfl) (by kernel_rfl) (fun _ _ _ h => h) (Or.inl ⟨by rfl, ?_⟩) hHeld ?_; rotate_left; (intro w hSw; have k1 := hSw.1.p0; have k2 := hSw.1.p1; have k3 := hSw.2.1; have k4 := hSw.2.2.1; have k5 := sl_atO hSw.1.sS ys.length (by have := Hkl.out; omega); have k6 := sl_atO hSw.1.sS (ys.length + 1) (by have := Hkl.out; omega); rw [Hk.out.1] at k5; rw [Hk.out.2] at k6; clear hSw; (go_simp <;> with_reducible rfl)); simp only [List.getElem_toArray, List.getElem_cons_zero, List.getElem_cons_succ, Act.put, List.setIfInBounds_toArray, List.set_cons_zero, List.set_cons_succ]) | (refine wpAnyH_take (i := 14) (v := undef) rfl (by kernel_rfl) (by kernel_rfl) (by kernel_rfl) (fun _ _ _ h => h) (Or.inr ⟨by rfl, rfl⟩) hHeld ?_; simp only [List.getElem_toArray, List.getElem_cons_zero, List.getElem_cons_succ, Act.put, List.setIfInBounds_toArray, List.set_cons_zero, List.set_cons_succ])
        first | (refine wpAnyH_take (i := 15) (v := ?_) rfl (by kernel_rfl) (by kernel_rfl) (by kernel_rfl) (fun _ _ _ h => h) (Or.inl ⟨by rfl, ?_⟩) hHeld ?_; rotate_left; (intro w hSw; have k1 := hSw.1.p0; have k2 := hSw.1.p1; have k3 := hSw.2.1; have k4 := hSw.2.2.1; have k5 := sl_atO hSw.1.sS ys.length (by have := Hkl.out; omega); have k6 := sl_atO hSw.1.sS (ys.length + 1) (by have := Hkl.out; omega); rw [Hk.out.1] at k5; rw [Hk.out.2] at k6; clear hSw; (go_simp <;> with_reducible rfl)); simp only [List.getElem_toArray, List.getElem_cons_zero, List.getElem_cons_succ, Act.put, List.setIfInBounds_toArray, List.set_cons_zero, List.set_cons_succ]) | (refine wpAnyH_take (i := 15) (v := undef) rfl (by kernel_rfl) (by kernel_rfl) (by kernel_rfl) (fun _ _ _ h => h) (Or.inr ⟨by rfl, rfl⟩) hHeld ?_; simp only [List.getElem_toArray, List.getElem_cons_zero, List.getElem_cons_succ, Act.put, List.setIfInBounds_toArray, List.set_cons_zero, List.set_cons_succ])
        first | (refine wpAnyH_take (i := 16) (v := ?_) rfl (by kernel_rfl) (by kernel_rfl) (by kernel_rfl) (fun _ _ _ h => h) (Or.inl ⟨by rfl, ?_⟩) hHeld ?_; rotate_left; (intro w hSw; have k1 := hSw.1.p0; have k2 := hSw.1.p1; have k3 := hSw.2.1; have k4 := hSw.2.2.1; have k5 := sl_atO hSw.1.sS ys.length (by have := Hkl.out; omega); have k6 := sl_atO hSw.1.sS (ys.length + 1) (by have := Hkl.out; omega); rw [Hk.out.1] at k5; rw [Hk.out.2] at k6; clear hSw; (go_simp <;> with_reducible rfl)); simp only [List.getElem_toArray, List.getElem_cons_zero, List.getElem_cons_succ, Act.put, List.setIfInBounds_toArray, List.set_cons_zero, List.set_cons_succ]) | (refine wpAnyH_take (i := 16) (v := undef) rfl (by kernel_rfl) (by kernel_rfl) (by kernel_rfl) (fun _ _ _ h => h) (Or.inr ⟨by rfl, rfl⟩) hHeld ?_; simp only [List.getElem_toArray, List.getElem_cons_zero, List.getElem_cons_succ, Act.put, List.setIfInBounds_toArray, List.set_cons_zero, List.set_cons_succ])
        first | (refine wpAnyH_take (i := 17) (v := ?_) rfl (by kernel_rfl) (by kernel_rfl) (by kernel_rfl) (fun _ _ _ h => h) (Or.inl ⟨by rfl, ?_⟩) hHeld ?_; rotate_left; (intro w hSw; have k1 := hSw.1.p0; have k2 := hSw.1.p1; have k3 := hSw.2.1; have k4 := hSw.2.2.1; have k5 := sl_atO hSw.1.sS ys.length (by have := Hkl.out; omega); have k6 := sl_atO hSw.1.sS (ys.length + 1) (by have := Hkl.out; omega); rw [Hk.out.1] at k5; rw [Hk.out.2] at k6; clear hSw; (go_simp <;> with_reducible rfl)); simp only [List.getElem_toArray, List.getElem_cons_zero, List.getElem_cons_succ, Act.put, List.setIfInBounds_toArray, List.set_cons_zero, List.set_cons_succ]) | (refine wpAnyH_take (i := 17) (v := undef) rfl (by kernel_rfl) (by kernel_rfl) (by kernel_rfl) (fun _ _ _ h => h) (Or.inr ⟨by rfl, rfl⟩) hHeld ?_; simp only [List.getElem_toArray, List.getElem_cons_zero, List.getElem_cons_succ, Act.put, List.setIfInBounds_toArray, List.set_cons_zero, List.set_cons_succ])
        first | (refine wpAnyH_take (i := 18) (v := ?_) rfl (by kernel_rfl) (by kernel_rfl) (by kernel_rfl) (fun _ _ _ h => h) (Or.inl ⟨by rfl, ?_⟩) hHeld ?_; rotate_left; (intro w hSw; have k1 := hSw.1.p0; have k2 := hSw.1.p1; have k3 := hSw.2.1; have k4 := hSw.2.2.1; have k5 := sl_atO hSw.1.sS ys.length (by have := Hkl.out; omega); have k6 := sl_atO hSw.1.sS (ys.length + 1) (by have := Hkl.out; omega); rw [Hk.out.1] at k5; rw [Hk.out.2] at k6; clear hSw; (go_simp <;> with_reducible rfl)); simp only [List.getElem_toArray, List.getElem_cons_zero, List.getElem_cons_succ, Act.put, List.setIfInBounds_toArray, List.set_cons_zero, List.set_cons_succ]) | (refine wpAnyH_take (i := 18) (v := undef) rfl (by kernel_rfl) (by kernel_rfl) (by kernel_rfl) (fun _ _ _ h => h) (Or.inr ⟨by rfl, rfl⟩) hHeld ?_; simp only [List.getElem_toArray, List.getElem_cons_zero, List.getElem_cons_succ, Act.put, List.setIfInBounds_toArray, List.set_cons_zero, List.set_cons_succ])
        first | (refine wpAnyH_take (i := 19) (v := ?_) rfl (by kernel_rfl) (by kernel_rfl) (by kernel_rfl) (fun _ _ _ h => h) (Or.inl ⟨by rfl, ?_⟩) hHeld ?_; rotate_left; (intro w hSw; have k1 := hSw.1.p0; have k2 := hSw.1.p1; have k3 := hSw.2.1; have k4 := hSw.2.2.1; have k5 := sl_atO hSw.1.sS ys.length (by have := Hkl.out; omega); have k6 := sl_atO hSw.1.sS (ys.length + 1) (by have := Hkl.out; omega); rw [Hk.out.1] at k5; rw [Hk.out.2] at k6; clear hSw; (go_simp <;> with_reducible rfl)); simp only [List.getElem_toArray, List.getElem_cons_zero, List.getElem_cons_succ, Act.put, List.setIfInBounds_toArray, List.set_cons_zero, List.set_cons_succ]) | (refine wpAnyH_take (i := 19) (v := undef) rfl (by kernel_rfl) (by kernel_rfl) (by kernel_rfl) (fun _ _ _ h => h) (Or.inr ⟨by rfl, rfl⟩) hHeld ?_; simp only [List.getElem_toArray, List.getElem_cons_zero, List.getElem_cons_succ, Act.put, List.setIfInBounds_toArray, List.set_cons_zero, List.set_cons_succ])
        (refine wpAnyH_take (i := 20) (v := ?_) rfl (by kernel_rfl) (by kernel_rfl) (by kernel_rfl) (fun _ _ _ h => h) (Or.inl ⟨by rfl, ?_⟩) hHeld ?_; rotate_left; (intro w hSw; have k1 := hSw.1.p0; have k2 := hSw.1.p1; have k3 := hSw.2.1; have k4 := hSw.2.2.1; have k5 := sl_atO hSw.1.sS ys.length (by have := Hkl.out; omega); have k6 := sl_atO hSw.1.sS (ys.length + 1) (by have := Hkl.out; omega); rw [Hk.out.1] at k5; rw [Hk.out.2] at k6; clear hSw; (go_simp <;> with_reducible rfl)); simp only [List.getElem_toArray, List.getElem_cons_zero, List.getElem_cons_succ, Act.put, List.setIfInBounds_toArray, List.set_cons_zero, List.set_cons_succ])
        (refine wpAnyH_take (i := 21) (v := ?_) rfl (by kernel_rfl) (by kernel_rfl) (by kernel_rfl) (fun _ _ _ h => h) (Or.inl ⟨by rfl, ?_⟩) hHeld ?_; rotate_left; (intro w hSw; have k1 := hSw.1.p0; have k2 := hSw.1.p1; have k3 := hSw.2.1; have k4 := hSw.2.2.1; have k5 := sl_atO hSw.1.sS ys.length (by have := Hkl.out; omega); have k6 := sl_atO hSw.1.sS (ys.length + 1) (by have := Hkl.out; omega); rw [Hk.out.1] at k5; rw [Hk.out.2] at k6; clear hSw; (go_simp <;> with_reducible rfl)); simp only [List.getElem_toArray, List.getElem_cons_zero, List.getElem_cons_succ, Act.put, List.setIfInBounds_toArray, List.set_cons_zero, List.set_cons_succ])
        first | (refine wpAnyH_take (i := 22) (v := ?_) rfl (by kernel_rfl) (by kernel_rfl) (by kernel_rfl) (fun _ _ _ h => h) (Or.inl ⟨by rfl, ?_⟩) hHeld ?_; rotate_left; (intro w hSw; have k1 := hSw.1.p0; have k2 := hSw.1.p1; have k3 := hSw.2.1; have k4 := hSw.2.2.1; have k5 := sl_atO hSw.1.sS ys.length (by have := Hkl.out; omega); have k6 := sl_atO hSw.1.sS (ys.length + 1) (by have := Hkl.out; omega); rw [Hk.out.1] at k5; rw [Hk.out.2] at k6; clear hSw; (go_simp <;> with_reducible rfl)); simp only [List.getElem_toArray, List.getElem_cons_zero, List.getElem_cons_succ, Act.put, List.setIfInBounds_toArray, List.set_cons_zero, List.set_cons_succ]) | (refine wpAnyH_take (i := 22) (v := undef) rfl (by kernel_rfl) (by kernel_rfl) (by kernel_rfl) (fun _ _ _ h => h) (Or.inr ⟨by rfl, rfl⟩) hHeld ?_; simp only [List.getElem_toArray, List.getElem_cons_zero, List.getElem_cons_succ, Act.put, List.setIfInBounds_toArray, List.set_cons_zero, List.set_cons_succ])
        first | (refine wpAnyH_take (i := 23) (v := ?_) rfl (by kernel_rfl) (by kernel_rfl) (by kernel_rfl) (fun _ _ _ h => h) (Or.inl ⟨by rfl, ?_⟩) hHeld ?_; rotate_left; (intro w hSw; have k1 := hSw.1.p0; have k2 := hSw.1.p1; have k3 := hSw.2.1; have k4 := hSw.2.2.1; have k5 := sl_atO hSw.1.sS ys.length (by have := Hkl.out; omega); have k6 := sl_atO hSw.1.sS (ys.length + 1) (by have := Hkl.out; omega); rw [Hk.out.1] at k5; rw [Hk.out.2] at k6; clear hSw; (go_simp <;> with_reducible rfl)); simp only [List.getElem_toArray, List.getElem_cons_zero, List.getElem_cons_succ, Act.put, List.setIfInBounds_toArray, List.set_cons_zero, List.set_cons_succ]) | (refine wpAnyH_take (i := 23) (v := undef) rfl (by kernel_rfl) (by kernel_rfl) (by kernel_rfl) (fun _ _ _ h => h) (Or.inr ⟨by rfl, rfl⟩) hHeld ?_; simp only [List.getElem_toArray, List.getElem_cons_zero, List.getElem_cons_succ, Act.put, List.setIfInBounds_toArray, List.set_cons_zero, List.set_cons_succ])
        first | (refine wpAnyH_take (i := 24) (v := ?_) rfl (by kernel_rfl) (by kernel_rfl) (by kernel_rfl) (fun _ _ _ h => h) (Or.inl ⟨by rfl, ?_⟩) hHeld ?_; rotate_left; (intro w hSw; have k1 := hSw.1.p0; have k2 := hSw.1.p1; have k3 := hSw.2.1; have k4 := hSw.2.2.1; have k5 := sl_atO hSw.1.sS ys.length (by have := Hkl.out; omega); have k6 := sl_atO hSw.1.sS (ys.length + 1) (by have := Hkl.out; omega); rw [Hk.out.1] at k5; rw [Hk.out.2] at k6; clear hSw; (go_simp <;> with_reducible rfl)); simp only [List.getElem_toArray, List.getElem_cons_zero, List.getElem_cons_succ, Act.put, List.setIfInBounds_toArray, List.set_cons_zero, List.set_cons_succ]) | (refine wpAnyH_take (i := 24) (v := undef) rfl (by kernel_rfl) (by kernel_rfl) (by kernel_rfl) (fun _ _ _ h => h) (Or.inr ⟨by rfl, rfl⟩) hHeld ?_; simp only [List.getElem_toArray, List.getElem_cons_zero, List.getElem_cons_succ, Act.put, List.setIfInBounds_toArray, List.set_cons_zero, List.set_cons_succ])
        (refine wpAnyH_take (i := 25) (v := ?_) rfl (by kernel_rfl) (by kernel_rfl) (by kernel_rfl) (fun _ _ _ h => h) (Or.inl ⟨by rfl, ?_⟩) hHeld ?_; rotate_left; (intro w hSw; have k1 := hSw.1.p0; have k2 := hSw.1.p1; have k3 := hSw.2.1; have k4 := hSw.2.2.1; have k5 := sl_atO hSw.1.sS ys.length (by have := Hkl.out; omega); have k6 := sl_atO hSw.1.sS (ys.length + 1) (by have := Hkl.out; omega); rw [Hk.out.1] at k5; rw [Hk.out.2] at k6; clear hSw; (go_simp <;> with_reducible rfl)); simp only [List.getElem_toArray, List.getElem_cons_zero, List.getElem_cons_succ, Act.put, List.setIfInBounds_toArray, List.set_cons_zero, List.set_cons_succ])
        (refine wpAnyH_take (i := 26) (v := ?_) rfl (by kernel_rfl) (by kernel_rfl) (by kernel_rfl) (fun _ _ _ h => h) (Or.inl ⟨by rfl, ?_⟩) hHeld ?_; rotate_left; (intro w hSw; have k1 := hSw.1.p0; have k2 := hSw.1.p1; have k3 := hSw.2.1; have k4 := hSw.2.2.1; have k5 := sl_atO hSw.1.sS ys.length (by have := Hkl.out; omega); have k6 := sl_atO hSw.1.sS (ys.length + 1) (by have := Hkl.out; omega); rw [Hk.out.1] at k5; rw [Hk.out.2] at k6; clear hSw; (go_simp <;> with_reducible rfl)); simp only [List.getElem_toArray, List.getElem_cons_zero, List.getElem_cons_succ, Act.put, List.setIfInBounds_toArray, List.set_cons_zero, List.set_cons_succ])
        first | (refine wpAnyH_take (i := 27) (v := ?_) rfl (by kernel_rfl) (by kernel_rfl) (by kernel_rfl) (fun _ _ _ h => h) (Or.inl ⟨by rfl, ?_⟩) hHeld ?_; rotate_left; (intro w hSw; have k1 := hSw.1.p0; have k2 := hSw.1.p1; have k3 := hSw.2.1; have k4 := hSw.2.2.1; have k5 := sl_atO hSw.1.sS ys.length (by have := Hkl.out; omega); have k6 := sl_atO hSw.1.sS (ys.length + 1) (by have := Hkl.out; omega); rw [Hk.out.1] at k5; rw [Hk.out.2] at k6; clear hSw; (go_simp <;> with_reducible rfl)); simp only [List.getElem_toArray, List.getElem_cons_zero, List.getElem_cons_succ, Act.put, List.setIfInBounds_toArray, List.set_cons_zero, List.set_cons_succ]) | (refine wpAnyH_take (i := 27) (v := undef) rfl (by kernel_rfl) (by kernel_rfl) (by kernel_rfl) (fun _ _ _ h => h) (Or.inr ⟨by rfl, rfl⟩) hHeld ?_; simp only [List.getElem_toArray, List.getElem_cons_zero, List.getElem_cons_succ, Act.put, List.setIfInBounds_toArray, List.set_cons_zero, List.set_cons_succ])
        first | (refine wpAnyH_take (i := 28) (v := ?_) rfl (by kernel_rfl) (by kernel_rfl) (by kernel_rfl) (fun _ _ _ h => h) (Or.inl ⟨by rfl, ?_⟩) hHeld ?_; rotate_left; (intro w hSw; have k1 := hSw.1.p0; have k2 := hSw.1.p1; have k3 := hSw.2.1; have k4 := hSw.2.2.1; have k5 := sl_atO hSw.1.sS ys.length (by have := Hkl.out; omega); have k6 := sl_atO hSw.1.sS (ys.length + 1) (by have := Hkl.out; omega); rw [Hk.out.1] at k5; rw [Hk.out.2] at k6; clear hSw; (go_simp <;> with_reducible rfl)); simp only [List.getElem_toArray, List.getElem_cons_zero, List.getElem_cons_succ, Act.put, List.setIfInBounds_toArray, List.set_cons_zero, List.set_cons_succ]) | (refine wpAnyH_take (i := 28) (v := undef) rfl (by kernel_rfl) (by kernel_rfl) (by kernel_rfl) (fun _ _ _ h => h) (Or.inr ⟨by rfl, rfl⟩) hHeld ?_; simp only [List.getElem_toArray, List.getElem_cons_zero, List.getElem_cons_succ, Act.put, List.setIfInBounds_toArray, List.set_cons_zero, List.set_cons_succ])
        first | (refine wpAnyH_take (i := 29) (v := ?_) rfl (by kernel_rfl) (by kernel_rfl) (by kernel_rfl) (fun _ _ _ h => h) (Or.inl ⟨by rfl, ?_⟩) hHeld ?_; rotate_left; (intro w hSw; have k1 := hSw.1.p0; have k2 := hSw.1.p1; have k3 := hSw.2.1; have k4 := hSw.2.2.1; have k5 := sl_atO hSw.1.sS ys.length (by have := Hkl.out; omega); have k6 := sl_atO hSw.1.sS (ys.length + 1) (by have := Hkl.out; omega); rw [Hk.out.1] at k5; rw [Hk.out.2] at k6; clear hSw; (go_simp <;> with_reducible rfl)); simp only [List.getElem_toArray, List.getElem_cons_zero, List.getElem_cons_succ, Act.put, List.setIfInBounds_toArray, List.set_cons_zero, List.set_cons_succ]) | (refine wpAnyH_take (i := 29) (v := undef) rfl (by kernel_rfl) (by kernel_rfl) (by kernel_rfl) (fun _ _ _ h => h) (Or.inr ⟨by rfl, rfl⟩) hHeld ?_; simp only [List.getElem_toArray, List.getElem_cons_zero, List.getElem_cons_succ, Act.put, List.setIfInBounds_toArray, List.set_cons_zero, List.set_cons_succ])
        first | (refine wpAnyH_take (i := 30) (v := ?_) rfl (by kernel_rfl) (by kernel_rfl) (by kernel_rfl) (fun _ _ _ h => h) (Or.inl ⟨by rfl, ?_⟩) hHeld ?_; rotate_left; (intro w hSw; have k1 := hSw.1.p0; have k2 := hSw.1.p1; have k3 := hSw.2.1; have k4 := hSw.2.2.1; have k5 := sl_atO hSw.1.sS ys.length (by have := Hkl.out; omega); have k6 := sl_atO hSw.1.sS (ys.length + 1) (by have := Hkl.out; omega); rw [Hk.out.1] at k5; rw [Hk.out.2] at k6; clear hSw; (go_simp <;> with_reducible rfl)); simp only [List.getElem_toArray, List.getElem_cons_zero, List.getElem_cons_succ, Act.put, List.setIfInBounds_toArray, List.set_cons_zero, List.set_cons_succ]) | (refine wpAnyH_take (i := 30) (v := undef) rfl (by kernel_rfl) (by kernel_rfl) (by kernel_rfl) (fun _ _ _ h => h) (Or.inr ⟨by rfl, rfl⟩) hHeld ?_; simp only [List.getElem_toArray, List.getElem_cons_zero, List.getElem_cons_succ, Act.put, List.setIfInBounds_toArray, List.set_cons_zero, List.set_cons_succ])
        first | (refine wpAnyH_take (i := 31) (v := ?_) rfl (by kernel_rfl) (by kernel_rfl) (by kernel_rfl) (fun _ _ _ h => h) (Or.inl ⟨by rfl, ?_⟩) hHeld ?_; rotate_left; (intro w hSw; have k1 := hSw.1.p0; have k2 := hSw.1.p1; have k3 := hSw.2.1; have k4 := hSw.2.2.1; have k5 := sl_atO hSw.1.sS ys.length (by have := Hkl.out; omega); have k6 := sl_atO hSw.1.sS (ys.length + 1) (by have := Hkl.out; omega); rw [Hk.out.1] at k5; rw [Hk.out.2] at k6; clear hSw; (go_simp <;> with_reducible rfl)); simp only [List.getElem_toArray, List.getElem_cons_zero, List.getElem_cons_succ, Act.put, List.setIfInBounds_toArray, List.set_cons_zero, List.set_cons_succ]) | (refine wpAnyH_take (i := 31) (v := undef) rfl (by kernel_rfl) (by kernel_rfl) (by kernel_rfl) (fun _ _ _ h => h) (Or.inr ⟨by rfl, rfl⟩) hHeld ?_; simp only [List.getElem_toArray, List.getElem_cons_zero, List.getElem_cons_succ, Act.put, List.setIfInBounds_toArray, List.set_cons_zero, List.set_cons_succ])
        first | (refine wpAnyH_take (i := 32) (v := ?_) rfl (by kernel_rfl) (by kernel_rfl) (by kernel_rfl) (fun _ _ _ h => h) (Or.inl ⟨by rfl, ?_⟩) hHeld ?_; rotate_left; (intro w hSw; have k1 := hSw.1.p0; have k2 := hSw.1.p1; have k3 := hSw.2.1; have k4 := hSw.2.2.1; have k5 := sl_atO hSw.1.sS ys.length (by have := Hkl.out; omega); have k6 := sl_atO hSw.1.sS (ys.length + 1) (by have := Hkl.out; omega); rw [Hk.out.1] at k5; rw [Hk.out.2] at k6; clear hSw; (go_simp <;> with_reducible rfl)); simp only [List.getElem_toArray, List.getElem_cons_zero, List.getElem_cons_succ, Act.put, List.setIfInBounds_toArray, List.set_cons_zero, List.set_cons_succ]) | (refine wpAnyH_take (i := 32) (v := undef) rfl (by kernel_rfl) (by kernel_rfl) (by kernel_rfl) (fun _ _ _ h => h) (Or.inr ⟨by rfl, rfl⟩) hHeld ?_; simp only [List.getElem_toArray, List.getElem_cons_zero, List.getElem_cons_succ, Act.put, List.setIfInBounds_toArray, List.set_cons_zero, List.set_cons_succ])
        first | (refine wpAnyH_take (i := 33) (v := ?_) rfl (by kernel_rfl) (by kernel_rfl) (by kernel_rfl) (fun _ _ _ h => h) (Or.inl ⟨by rfl, ?_⟩) hHeld ?_; rotate_left; (intro w hSw; have k1 := hSw.1.p0; have k2 := hSw.1.p1; have k3 := hSw.2.1; have k4 := hSw.2.2.1; have k5 := sl_atO hSw.1.sS ys.length (by have := Hkl.out; omega); have k6 := sl_atO hSw.1.sS (ys.length + 1) (by have := Hkl.out; omega); rw [Hk.out.1] at k5; rw [Hk.out.2] at k6; clear hSw; (go_simp <;> with_reducible rfl)); simp only [List.getElem_toArray, List.getElem_cons_zero, List.getElem_cons_succ, Act.put, List.setIfInBounds_toArray, List.set_cons_zero, List.set_cons_succ]) | (refine wpAnyH_take (i := 33) (v := undef) rfl (by kernel_rfl) (by kernel_rfl) (by kernel_rfl) (fun _ _ _ h => h) (Or.inr ⟨by rfl, rfl⟩) hHeld ?_; simp only [List.getElem_toArray, List.getElem_cons_zero, List.getElem_cons_succ, Act.put, List.setIfInBounds_toArray, List.set_cons_zero, List.set_cons_succ])
        first | (refine wpAnyH_take (i := 34) (v := ?_) rfl (by kernel_rfl) (by kernel_rfl) (by kernel_rfl) (fun _ _ _ h => h) (Or.inl ⟨by rfl, ?_⟩) hHeld ?_; rotate_left; (intro w hSw; have k1 := hSw.1.p0; have k2 := hSw.1.p1; have k3 := hSw.2.1; have k4 := hSw.2.2.1; have k5 := sl_atO hSw.1.sS ys.length (by have := Hkl.out; omega); have k6 := sl_atO hSw.1.sS (ys.length + 1) (by have := Hkl.out; omega); rw [Hk.out.1] at k5; rw [Hk.out.2] at k6; clear hSw; (go_simp <;> with_reducible rfl)); simp only [List.getElem_toArray, List.getElem_cons_zero, List.getElem_cons_succ, Act.put, List.setIfInBounds_toArray, List.set_cons_zero, List.set_cons_succ]) | (refine wpAnyH_take (i := 34) (v := undef) rfl (by kernel_rfl) (by kernel_rfl) (by kernel_rfl) (fun _ _ _ h => h) (Or.inr ⟨by rfl, rfl⟩) hHeld ?_; simp only [List.getElem_toArray, List.getElem_cons_zero, List.getElem_cons_succ, Act.put, List.setIfInBounds_toArray, List.set_cons_zero, List.set_cons_succ])
        first | (refine wpAnyH_take (i := 35) (v := ?_) rfl (by kernel_rfl) (by kernel_rfl) (by kernel_rfl) (fun _ _ _ h => h) (Or.inl ⟨by rfl, ?_⟩) hHeld ?_; rotate_left; (intro w hSw; have k1 := hSw.1.p0; have k2 := hSw.1.p1; have k3 := hSw.2.1; have k4 := hSw.2.2.1; have k5 := sl_atO hSw.1.sS ys.length (by have := Hkl.out; omega); have k6 := sl_atO hSw.1.sS (ys.length + 1) (by have := Hkl.out; omega); rw [Hk.out.1] at k5; rw [Hk.out.2] at k6; clear hSw; (go_simp <;> with_reducible rfl)); simp only [List.getElem_toArray, List.getElem_cons_zero, List.getElem_cons_succ, Act.put, List.setIfInBounds_toArray, List.set_cons_zero, List.set_cons_succ]) | (refine wpAnyH_take (i := 35) (v := undef) rfl (by kernel_rfl) (by kernel_rfl) (by kernel_rfl) (fun _ _ _ h => h) (Or.inr ⟨by rfl, rfl⟩) hHeld ?_; simp only [List.getElem_toArray, List.getElem_cons_zero, List.getElem_cons_succ, Act.put, List.setIfInBounds_toArray, List.set_cons_zero, List.set_cons_succ])
        first | (refine wpAnyH_take (i := 36) (v := ?_) rfl (by kernel_rfl) (by kernel_rfl) (by kernel_rfl) (fun _ _ _ h => h) (Or.inl ⟨by rfl, ?_⟩) hHeld ?_; rotate_left; (intro w hSw; have k1 := hSw.1.p0; have k2 := hSw.1.p1; have k3 := hSw.2.1; have k4 := hSw.2.2.1; have k5 := sl_atO hSw.1.sS ys.length (by have := Hkl.out; omega); have k6 := sl_atO hSw.1.sS (ys.length + 1) (by have := Hkl.out; omega); rw [Hk.out.1] at k5; rw [Hk.out.2] at k6; clear hSw; (go_simp <;> with_reducible rfl)); simp only [List.getElem_toArray, List.getElem_cons_zero, List.getElem_cons_succ, Act.put, List.setIfInBounds_toArray, List.set_cons_zero, List.set_cons_succ]) | (refine wpAnyH_take (i := 36) (v := undef) rfl (by kernel_rfl) (by kernel_rfl) (by kernel_rfl) (fun _ _ _ h => h) (Or.inr ⟨by rfl, rfl⟩) hHeld ?_; simp only [List.getElem_toArray, List.getElem_cons_zero, List.getElem_cons_succ, Act.put, List.setIfInBounds_toArray, List.set_cons_zero, List.set_cons_succ])
        first | (refine wpAnyH_take (i := 37) (v := ?_) rfl (by kernel_rfl) (by kernel_rfl) (by kernel_rfl) (fun _ _ _ h => h) (Or.inl ⟨by rfl, ?_⟩) hHeld ?_; rotate_left; (intro w hSw; have k1 := hSw.1.p0; have k2 := hSw.1.p1; have k3 := hSw.2.1; have k4 := hSw.2.2.1; have k5 := sl_atO hSw.1.sS ys.length (by have := Hkl.out; omega); have k6 := sl_atO hSw.1.sS (ys.length + 1) (by have := Hkl.out; omega); rw [Hk.out.1] at k5; rw [Hk.out.2] at k6; clear hSw; (go_simp <;> with_reducible rfl)); simp only [List.getElem_toArray, List.getElem_cons_zero, List.getElem_cons_succ, Act.put, List.setIfInBounds_toArray, List.set_cons_zero, List.set_cons_succ]) | (refine wpAnyH_take (i := 37) (v := undef) rfl (by kernel_rfl) (by kernel_rfl) (by kernel_rfl) (fun _ _ _ h => h) (Or.inr ⟨by rfl, rfl⟩) hHeld ?_; simp only [List.getElem_toArray, List.getElem_cons_zero, List.getElem_cons_succ, Act.put, List.setIfInBounds_toArray, List.set_cons_zero, List.set_cons_succ])
        first | (refine wpAnyH_take (i := 38) (v := ?_) rfl (by kernel_rfl) (by kernel_rfl) (by kernel_rfl) (fun _ _ _ h => h) (Or.inl ⟨by rfl, ?_⟩) hHeld ?_; rotate_left; (intro w hSw; have k1 := hSw.1.p0; have k2 := hSw.1.p1; have k3 := hSw.2.1; have k4 := hSw.2.2.1; have k5 := sl_atO hSw.1.sS ys.length (by have := Hkl.out; omega); have k6 := sl_atO hSw.1.sS (ys.length + 1) (by have := Hkl.out; omega); rw [Hk.out.1] at k5; rw [Hk.out.2] at k6; clear hSw; (go_simp <;> with_reducible rfl)); simp only [List.getElem_toArray, List.getElem_cons_zero, List.getElem_cons_succ, Act.put, List.setIfInBounds_toArray, List.set_cons_zero, List.set_cons_succ]) | (refine wpAnyH_take (i := 38) (v := undef) rfl (by kernel_rfl) (by kernel_rfl) (by kernel_rfl) (fun _ _ _ h => h) (Or.inr ⟨by rfl, rfl⟩) hHeld ?_; simp only [List.getElem_toArray, List.getElem_cons_zero, List.getElem_cons_succ, Act.put, List.setIfInBounds_toArray, List.set_cons_zero, List.set_cons_succ])
        first | (refine wpAnyH_take (i := 39) (v := ?_) rfl (by kernel_rfl) (by kernel_rfl) (by kernel_rfl) (fun _ _ _ h => h) (Or.inl ⟨by rfl, ?_⟩) hHeld ?_; rotate_left; (intro w hSw; have k1 := hSw.1.p0; have k2 := hSw.1.p1; have k3 := hSw.2.1; have k4 := hSw.2.2.1; have k5 := sl_atO hSw.1.sS ys.length (by have := Hkl.out; omega); have k6 := sl_atO hSw.1.sS (ys.length + 1) (by have := Hkl.out; omega); rw [Hk.out.1] at k5; rw [Hk.out.2] at k6; clear hSw; (go_simp <;> with_reducible rfl)); simp only [List.getElem_toArray, List.getElem_cons_zero, List.getElem_cons_succ, Act.put, List.setIfInBounds_toArray, List.set_cons_zero, List.set_cons_succ]) | (refine wpAnyH_take (i := 39) (v := undef) rfl (by kernel_rfl) (by kernel_rfl) (by kernel_rfl) (fun _ _ _ h => h) (Or.inr ⟨by rfl, rfl⟩) hHeld ?_; simp only [List.getElem_toArray, List.getElem_cons_zero, List.getElem_cons_succ, Act.put, List.setIfInBounds_toArray, List.set_cons_zero, List.set_cons_succ])
        first | (refine wpAnyH_take (i := 40) (v := ?_) rfl (by kernel_rfl) (by kernel_rfl) (by kernel_rfl) (fun _ _ _ h => h) (Or.inl ⟨by rfl, ?_⟩) hHeld ?_; rotate_left; (intro w hSw; have k1 := hSw.1.p0; have k2 := hSw.1.p1; have k3 := hSw.2.1; have k4 := hSw.2.2.1; have k5 := sl_atO hSw.1.sS ys.length (by have := Hkl.out; omega); have k6 := sl_atO hSw.1.sS (ys.length + 1) (by have := Hkl.out; omega); rw [Hk.out.1] at k5; rw [Hk.out.2] at k6; clear hSw; (go_simp <;> with_reducible rfl)); simp only [List.getElem_toArray, List.getElem_cons_zero, List.getElem_cons_succ, Act.put, List.setIfInBounds_toArray, List.set_cons_zero, List.set_cons_succ]) | (refine wpAnyH_take (i := 40) (v := undef) rfl (by kernel_rfl) (by kernel_rfl) (by kernel_rfl) (fun _ _ _ h => h) (Or.inr ⟨by rfl, rfl⟩) hHeld ?_; simp only [List.getElem_toArray, List.getElem_cons_zero, List.getElem_cons_succ, Act.put, List.setIfInBounds_toArray, List.set_cons_zero, List.set_cons_succ])
        first | (refine wpAnyH_take (i := 41) (v := ?_) rfl (by kernel_rfl) (by kernel_rfl) (by kernel_rfl) (fun _ _ _ h => h) (Or.inl ⟨by rfl, ?_⟩) hHeld ?_; rotate_left; (intro w hSw; have k1 := hSw.1.p0; have k2 := hSw.1.p1; have k3 := hSw.2.1; have k4 := hSw.2.2.1; have k5 := sl_atO hSw.1.sS ys.length (by have := Hkl.out; omega); have k6 := sl_atO hSw.1.sS (ys.length + 1) (by have := Hkl.out; omega); rw [Hk.out.1] at k5; rw [Hk.out.2] at k6; clear hSw; (go_simp <;> with_reducible rfl)); simp only [List.getElem_toArray, List.getElem_cons_zero, List.getElem_cons_succ, Act.put, List.setIfInBounds_toArray, List.set_cons_zero, List.set_cons_succ]) | (refine wpAnyH_take (i := 41) (v := undef) rfl (by kernel_rfl) (by kernel_rfl) (by kernel_rfl) (fun _ _ _ h => h) (Or.inr ⟨by rfl, rfl⟩) hHeld ?_; simp only [List.getElem_toArray, List.getElem_cons_zero, List.getElem_cons_succ, Act.put, List.setIfInBounds_toArray, List.set_cons_zero, List.set_cons_succ])
        first | (refine wpAnyH_take (i := 42) (v := ?_) rfl (by kernel_rfl) (by kernel_rfl) (by kernel_rfl) (fun _ _ _ h => h) (Or.inl ⟨by rfl, ?_⟩) hHeld ?_; rotate_left; (intro w hSw; have k1 := hSw.1.p0; have k2 := hSw.1.p1; have k3 := hSw.2.1; have k4 := hSw.2.2.1; have k5 := sl_atO hSw.1.sS ys.length (by have := Hkl.out; omega); have k6 := sl_atO hSw.1.sS (ys.length + 1) (by have := Hkl.out; omega); rw [Hk.out.1] at k5; rw [Hk.out.2] at k6; clear hSw; (go_simp <;> with_reducible rfl)); simp only [List.getElem_toArray, List.getElem_cons_zero, List.getElem_cons_succ, Act.put, List.setIfInBounds_toArray, List.set_cons_zero, List.set_cons_succ]) | (refine wpAnyH_take (i := 42) (v := undef) rfl (by kernel_rfl) (by kernel_rfl) (by kernel_rfl) (fun _ _ _ h => h) (Or.inr ⟨by rfl, rfl⟩) hHeld ?_; simp only [List.getElem_toArray, List.getElem_cons_zero, List.getElem_cons_succ, Act.put, List.setIfInBounds_toArray, List.set_cons_zero, List.set_cons_succ])
        first | (refine wpAnyH_take (i := 43) (v := ?_) rfl (by kernel_rfl) (by kernel_rfl) (by kernel_rfl) (fun _ _ _ h => h) (Or.inl ⟨by rfl, ?_⟩) hHeld ?_; rotate_left; (intro w hSw; have k1 := hSw.1.p0; have k2 := hSw.1.p1; have k3 := hSw.2.1; have k4 := hSw.2.2.1; have k5 := sl_atO hSw.1.sS ys.length (by have := Hkl.out; omega); have k6 := sl_atO hSw.1.sS (ys.length + 1) (by have := Hkl.out; omega); rw [Hk.out.1] at k5; rw [Hk.out.2] at k6; clear hSw; (go_simp <;> with_reducible rfl)); simp only [List.getElem_toArray, List.getElem_cons_zero, List.getElem_cons_succ, Act.put, List.setIfInBounds_toArray, List.set_cons_zero, List.set_cons_succ]) | (refine wpAnyH_take (i := 43) (v := undef) rfl (by kernel_rfl) (by kernel_rfl) (by kernel_rfl) (fun _ _ _ h => h) (Or.inr ⟨by rfl, rfl⟩) hHeld ?_; simp only [List.getElem_toArray, List.getElem_cons_zero, List.getElem_cons_succ, Act.put, List.setIfInBounds_toArray, List.set_cons_zero, List.set_cons_succ])
        first | (refine wpAnyH_take (i := 44) (v := ?_) rfl (by kernel_rfl) (by kernel_rfl) (by kernel_rfl) (fun _ _ _ h => h) (Or.inl ⟨by rfl, ?_⟩) hHeld ?_; rotate_left; (intro w hSw; have k1 := hSw.1.p0; have k2 := hSw.1.p1; have k3 := hSw.2.1; have k4 := hSw.2.2.1; have k5 := sl_atO hSw.1.sS ys.length (by have := Hkl.out; omega); have k6 := sl_atO hSw.1.sS (ys.length + 1) (by have := Hkl.out; omega); rw [Hk.out.1] at k5; rw [Hk.out.2] at k6; clear hSw; (go_simp <;> with_reducible rfl)); simp only [List.getElem_toArray, List.getElem_cons_zero, List.getElem_cons_succ, Act.put, List.setIfInBounds_toArray, List.set_cons_zero, List.set_cons_succ]) | (refine wpAnyH_take (i := 44) (v := undef) rfl (by kernel_rfl) (by kernel_rfl) (by kernel_rfl) (fun _ _ _ h => h) (Or.inr ⟨by rfl, rfl⟩) hHeld ?_; simp only [List.getElem_toArray, List.getElem_cons_zero, List.getElem_cons_succ, Act.put, List.setIfInBounds_toArray, List.set_cons_zero, List.set_cons_succ])
        (refine wpAnyH_take (i := 45) (v := ?_) rfl (by kernel_rfl) (by kernel_rfl) (by kernel_rfl) (fun _ _ _ h => h) (Or.inl ⟨by rfl, ?_⟩) hHeld ?_; rotate_left; (intro w hSw; have k1 := hSw.1.p0; have k2 := hSw.1.p1; have k3 := hSw.2.1; have k4 := hSw.2.2.1; have k5 := sl_atO hSw.1.sS ys.length (by have := Hkl.out; omega); have k6 := sl_atO hSw.1.sS (ys.length + 1) (by have := Hkl.out; omega); rw [Hk.out.1] at k5; rw [Hk.out.2] at k6; clear hSw; (go_simp <;> with_reducible rfl)); simp only [List.getElem_toArray, List.getElem_cons_zero, List.getElem_cons_succ, Act.put, List.setIfInBounds_toArray, List.set_cons_zero, List.set_cons_succ])
        (refine wpAnyH_take (i := 46) (v := ?_) rfl (by kernel_rfl) (by kernel_rfl) (by kernel_rfl) (fun _ _ _ h => h) (Or.inl ⟨by rfl, ?_⟩) hHeld ?_; rotate_left; (intro w hSw; have k1 := hSw.1.p0; have k2 := hSw.1.p1; have k3 := hSw.2.1; have k4 := hSw.2.2.1; have k5 := sl_atO hSw.1.sS ys.length (by have := Hkl.out; omega); have k6 := sl_atO hSw.1.sS (ys.length + 1) (by have := Hkl.out; omega); rw [Hk.out.1] at k5; rw [Hk.out.2] at k6; clear hSw; (go_simp <;> with_reducible rfl)); simp only [List.getElem_toArray, List.getElem_cons_zero, List.getElem_cons_succ, Act.put, List.setIfInBounds_toArray, List.set_cons_zero, List.set_cons_succ])
        refine wpAnyH_done (by kernel_rfl) ?_ _
        refine NoPanic.normal ?_
        have HB := hid hHeld.1.bel
        clear hHeld hK' K9 v3 v4 i1 i2 i3 i4
        go_wp2
        go_ret
        exact ⟨ret_bool (wraps_all _ hcl), HB.out⟩
end Go.Proofs.Ytlljdehjlbmgcaa.SealW
