/- Numbers that are off by no more than bounds. Conditions: at most 1000 numbers, none too great. -/
import Derived.Test.YtbakmphopgkpmaaDoorGb
import Derived.Test.YtbakmphopgkpmaaDoorLwAt
import Derived.Test.YtbakmphopgkpmaaDoorGe
import Derived.Test.YtbakmphopgkpmaaDoorLapS
import Derived.Deep.RegionHeld3
namespace Go.Proofs.YtbakmphopgkpmaaDoor.LwB
open Go.ChangeShapes Go.WideShapes Go.ChangeAt Go.RowKit Go.Proofs.YtbakmphopgkpmaaDoor.Num Go.Proofs.YtbakmphopgkpmaaDoor.Sli Go.Proofs.YtbakmphopgkpmaaDoor.App Go.Proofs.YtbakmphopgkpmaaDoor.Src Go.Proofs.YtbakmphopgkpmaaDoor.LwAt Go.Proofs.YtbakmphopgkpmaaDoor.IntL Go.Proofs.YtbakmphopgkpmaaDoor.IntA Go.Proofs.YtbakmphopgkpmaaDoor.HalM Go.Proofs.YtbakmphopgkpmaaDoor.BndM
open Go.Proofs.YtbakmphopgkpmaaDoor.Lists (own_new own_snoc)
/-- What is bent. -/
def smallI (x : Int) : Prop := -1099511627776 ≤ x ∧ x ≤ 1099511627776
def bent (L B ys : List Int) : Prop := ∀ i, i < ys.length → smallI (L.getD i 0) → nr (absV (B.getD i 0)) (ys.getD i 0) (L.getD i 0)
theorem bent_snoc {L B ys : List Int} {r : Int} (h : bent L B ys) (hr : smallI (L.getD ys.length 0) → nr (absV (B.getD ys.length 0)) r (L.getD ys.length 0)) : bent L B (ys ++ [r]) := by
  intro i hi
  rw [List.length_append] at hi
  by_cases hlt : i < ys.length
  · have e : (ys ++ [r]).getD i 0 = ys.getD i 0 := by rw [List.getD_eq_getElem?_getD, List.getElem?_append_left hlt, ← List.getD_eq_getElem?_getD]
    rw [e]; exact h i hlt
  · have : i = ys.length := by simp at hi; omega
    subst this
    have e : (ys ++ [r]).getD ys.length 0 = r := by rw [List.getD_eq_getElem?_getD, List.getElem?_append_right (Nat.le_refl _)]; simp
    rw [e]; exact hr
theorem abs_le {b : Int} : -absV b ≤ b ∧ b ≤ absV b ∧ 0 ≤ absV b ∧ -absV b ≤ -b ∧ -b ≤ absV b := by unfold absV; split <;> omega
theorem off_bd {b r : Int} (h0 : 0 ≤ r) (h1 : r < 2 * b + 1 ∨ r = 0) : -absV b ≤ r - b ∧ r - b ≤ absV b := by unfold absV; split <;> omega
theorem abs_small {b M : Int} (h : -M ≤ b ∧ b ≤ M) : absV b ≤ M := by unfold absV; split <;> omega
theorem nr_off {d x o : Int} (h : -d ≤ o ∧ o ≤ d) (hd : d ≤ 1099511627776) (hx : smallI x) : nr d (wrap64 (x + o)) x := by
  obtain ⟨h1, h2⟩ := hx
  rw [wrap_of (x := x + o) (by omega) (by omega)]; unfold nr; omega
set_option maxRecDepth 100000 in
set_option maxHeartbeats 4000000 in
theorem lwBent_calls (vl vb : Value) (L B : List Int) (a : Option Addr) (cap : Nat) (bs : List Int) (f : Nat) (w : World) (h1 : Sl .i64 w vl L) (h2 : Sl .i64 w vb B) (hsl : Sl .u8 w (.slice a bs.length cap) bs) (hbd : ∀ x ∈ bs, 0 ≤ x ∧ x ≤ 255) (hlen : bs.length ≤ 1048576)
    (hB : lim 1099511627776 B) (m1 : L.length ≤ 1000) (hf : f ≤ 100) :
    Calls Tryd.prog 16 #[vl, vb, .slice a bs.length cap, .int .i64 f] w fun e w' => ∃ gl cl ys, e = .returned (.slice (some ⟨gl, 0, none⟩) ys.length cl) ∧ Lists.Own w.heap.size w' gl cl ys ∧ ys.length = min L.length B.length ∧ bent L B ys ∧ Below w.heap.size w w' := by
  obtain ⟨i0, hi, hz0, hz1, hz2⟩ := info_parts Lists.infoI
  have H1 := hid h1
  have H2 := hid h2
  have HAt := hid (fun W (hb : Below w.heap.size w W) i n p1 p2 p3 => lwAt_calls a cap bs W (hsl.later hb) hbd hlen i n p1 p2 p3)
  have HB := hid hB
  obtain ⟨a1, k1, rfl, -⟩ := h1
  obtain ⟨a2, k2, rfl, -⟩ := h2
  have H0 : Hid (Below w.heap.size w (w.alloc (.cells #[] 2))) := bmore (Below.refl _ w) _
  clear hsl hbd hB
  go_enter Tryd.func16, Tryd.ntmps16
  go_wp2
  go_loopw [9, 10] (fun v i wr => ∃ (k gl cl : Nat) (ys : List Int), i = .int .i64 (k : Int) ∧ v = .slice (some ⟨gl, 0, none⟩) ys.length cl ∧ Hid (ys.length = k) ∧ k ≤ L.length ∧ k ≤ B.length ∧ Hid (bent L B ys) ∧ Hid (Lists.Own w.heap.size wr gl cl ys) ∧ Hid (Below w.heap.size w wr)) (fun _ i _ => L.length - (intOf i).toNat)
  case atStart => exact ⟨0, w.heap.size, 0, [], rfl, rfl, rfl, Nat.zero_le _, Nat.zero_le _, (fun i hi => by simp at hi), own_new w, H0.out⟩
  case round =>
    obtain ⟨k, gl, cl, ys, rfl, rfl, hyk, hk1, hk2, hbe, hown, hbw⟩ := hrel
    clear H0
    by_cases hlt : k < L.length ∧ k < B.length
    · have hl1I : (k : Int) < (L.length : Int) := by omega
      have hl2I : (k : Int) < (B.length : Int) := by omega
      have hkb : (k : Int) ≤ 1000 := by omega
      obtain ⟨a1', k1', hv1, hc1⟩ := H1.out
      cases hv1
      obtain ⟨b1, o1, rfl, hb1, hcell1⟩ := hc1 (by intro q; rw [q] at hlt; simp at hlt)
      obtain ⟨a2', k2', hv2, hc2⟩ := H2.out
      cases hv2
      obtain ⟨b2, o2, rfl, hb2, hcell2⟩ := hc2 (by intro q; rw [q] at hlt; simp at hlt)
      have C1 := hid (fun W (hb : Below w.heap.size w W) => (hb.cell (p := ⟨b1, o1 + k, none⟩) hb1).trans (hcell1 k hlt.1))
      have C2 := hid (fun W (hb : Below w.heap.size w W) => (hb.cell (p := ⟨b2, o2 + k, none⟩) hb2).trans (hcell2 k hlt.2))
      have hy := HB.out k
      have Hlt := hid hlt
      have HBe := hid (fun (r : Int) (h : smallI (L.getD k 0) → nr (absV (B.getD k 0)) r (L.getD k 0)) => bent_snoc (L := L) (B := B) (ys := ys) hbe.out (by rw [hyk.out]; exact h))
      clear hc1 hc2 hcell1 hcell2 hlt H1 H2 hbe HB
      generalize L.getD k 0 = x at *
      generalize B.getD k 0 = y at *
      obtain ⟨hy1, hy2⟩ := hy
      have hyd : -2199023255552 ≤ 2 * y ∧ 2 * y ≤ 2199023255552 := by omega
      obtain ⟨hyd1, hyd2⟩ := hyd
      have hfI : (0 : Int) ≤ (f : Int) ∧ (f : Int) ≤ 100 := by omega
      obtain ⟨hfI0, hfI1⟩ := hfI
      have e1 : IntKind.i64.wrap ((f : Int) + (k : Int)) = (f : Int) + (k : Int) := wrapk_of (by omega) (by omega)
      have e2 : IntKind.i64.wrap (2 * y) = 2 * y := wrapk_of (by omega) (by omega)
      have e3 : IntKind.i64.wrap (2 * y + 1) = 2 * y + 1 := wrapk_of (by omega) (by omega)
      go_wp2_with fail
      have hL1 : Below wr.heap.size wr wr.drew := (Below.refl _ wr).drew
      refine wp_region_noPanic ?_
      refine wp_region_held_drew (S := fun W => Below wr.heap.size wr W) (by kernel_rfl) ?_ (fun hHeld => ?_)
      · first | exact hL9 | exact hL1
      (refine wpAnyH_take (i := 0) (v := ?_) rfl (by kernel_rfl) (by kernel_rfl) (by kernel_rfl) (fun _ _ _ h => h) (Or.inl ⟨by rfl, ?_⟩) hHeld ?_; rotate_left; (intro w hSw; (have s2 := C2.out _ (bthen hbw.out hSw); clear hSw); (go_simp <;> with_reducible rfl)); simp only [List.getElem_toArray, List.getElem_cons_zero, Act.put, List.setIfInBounds_toArray, List.set_cons_zero, List.set_cons_succ])
      (refine wpAnyH_take (i := 1) (v := ?_) rfl (by kernel_rfl) (by kernel_rfl) (by kernel_rfl) (fun _ _ _ h => h) (Or.inl ⟨by rfl, ?_⟩) hHeld ?_; rotate_left; (intro w hSw; (have s2 := C2.out _ (bthen hbw.out hSw); clear hSw); (go_simp <;> with_reducible rfl)); simp only [List.getElem_toArray, List.getElem_cons_zero, List.getElem_cons_succ, Act.put, List.setIfInBounds_toArray, List.set_cons_zero, List.set_cons_succ])
      (refine wpAnyH_take (i := 2) (v := ?_) rfl (by kernel_rfl) (by kernel_rfl) (by kernel_rfl) (fun _ _ _ h => h) (Or.inl ⟨by rfl, ?_⟩) hHeld ?_; rotate_left; (intro w hSw; (have s2 := C2.out _ (bthen hbw.out hSw); clear hSw); (go_simp <;> with_reducible rfl)); simp only [List.getElem_toArray, List.getElem_cons_zero, List.getElem_cons_succ, Act.put, List.setIfInBounds_toArray, List.set_cons_zero, List.set_cons_succ])
      (refine wpAnyH_take (i := 3) (v := ?_) rfl (by kernel_rfl) (by kernel_rfl) (by kernel_rfl) (fun _ _ _ h => h) (Or.inl ⟨by rfl, ?_⟩) hHeld ?_; rotate_left; (intro w hSw; (have s2 := C2.out _ (bthen hbw.out hSw); clear hSw); (go_simp <;> with_reducible rfl)); simp only [List.getElem_toArray, List.getElem_cons_zero, List.getElem_cons_succ, Act.put, List.setIfInBounds_toArray, List.set_cons_zero, List.set_cons_succ])
      (refine wpAnyH_take (i := 4) (v := ?_) rfl (by kernel_rfl) (by kernel_rfl) (by kernel_rfl) (fun _ _ _ h => h) (Or.inl ⟨by rfl, ?_⟩) hHeld ?_; rotate_left; (intro w hSw; (have s2 := C2.out _ (bthen hbw.out hSw); clear hSw); (go_simp <;> with_reducible rfl)); simp only [List.getElem_toArray, List.getElem_cons_zero, List.getElem_cons_succ, Act.put, List.setIfInBounds_toArray, List.set_cons_zero, List.set_cons_succ])
      (refine wpAnyH_take (i := 5) (v := ?_) rfl (by kernel_rfl) (by kernel_rfl) (by kernel_rfl) (fun _ _ _ h => h) (Or.inl ⟨by rfl, ?_⟩) hHeld ?_; rotate_left; (intro w hSw; (have s2 := C2.out _ (bthen hbw.out hSw); clear hSw); (go_simp <;> with_reducible rfl)); simp only [List.getElem_toArray, List.getElem_cons_zero, List.getElem_cons_succ, Act.put, List.setIfInBounds_toArray, List.set_cons_zero, List.set_cons_succ])
      (refine wpAnyH_take (i := 6) (v := ?_) rfl (by kernel_rfl) (by kernel_rfl) (by kernel_rfl) (fun _ _ _ h => h) (Or.inl ⟨by rfl, ?_⟩) hHeld ?_; rotate_left; (intro w hSw; (have s2 := C2.out _ (bthen hbw.out hSw); clear hSw); (go_simp <;> with_reducible rfl)); simp only [List.getElem_toArray, List.getElem_cons_zero, List.getElem_cons_succ, Act.put, List.setIfInBounds_toArray, List.set_cons_zero, List.set_cons_succ])
      (refine wpAnyH_take (i := 7) (v := ?_) rfl (by kernel_rfl) (by kernel_rfl) (by kernel_rfl) (fun _ _ _ h => h) (Or.inl ⟨by rfl, ?_⟩) hHeld ?_; rotate_left; (intro w hSw; (have s2 := C2.out _ (bthen hbw.out hSw); clear hSw); (go_simp <;> with_reducible rfl)); simp only [List.getElem_toArray, List.getElem_cons_zero, List.getElem_cons_succ, Act.put, List.setIfInBounds_toArray, List.set_cons_zero, List.set_cons_succ])
      (refine wpAnyH_take (i := 8) (v := ?_) rfl (by kernel_rfl) (by kernel_rfl) (by kernel_rfl) (fun _ _ _ h => h) (Or.inl ⟨by rfl, ?_⟩) hHeld ?_; rotate_left; (intro w hSw; (have s2 := C2.out _ (bthen hbw.out hSw); clear hSw); (go_simp <;> with_reducible rfl)); simp only [List.getElem_toArray, List.getElem_cons_zero, List.getElem_cons_succ, Act.put, List.setIfInBounds_toArray, List.set_cons_zero, List.set_cons_succ])
      (refine wpAnyH_take (i := 9) (v := ?_) rfl (by kernel_rfl) (by kernel_rfl) (by kernel_rfl) (fun _ _ _ h => h) (Or.inl ⟨by rfl, ?_⟩) hHeld ?_; rotate_left; (intro w hSw; (have s2 := C2.out _ (bthen hbw.out hSw); clear hSw); (go_simp <;> with_reducible rfl)); simp only [List.getElem_toArray, List.getElem_cons_zero, List.getElem_cons_succ, Act.put, List.setIfInBounds_toArray, List.set_cons_zero, List.set_cons_succ])
      (refine wpAnyH_take (i := 11) (v := ?_) rfl (by kernel_rfl) (by kernel_rfl) (by kernel_rfl) (fun _ _ _ h => h) (Or.inl ⟨by rfl, ?_⟩) hHeld ?_; rotate_left; (intro w hSw; (have s2 := C2.out _ (bthen hbw.out hSw); clear hSw); (go_simp <;> with_reducible rfl)); simp only [List.getElem_toArray, List.getElem_cons_zero, List.getElem_cons_succ, Act.put, List.setIfInBounds_toArray, List.set_cons_zero, List.set_cons_succ])
      (refine wpAnyH_take (i := 12) (v := ?_) rfl (by kernel_rfl) (by kernel_rfl) (by kernel_rfl) (fun _ _ _ h => h) (Or.inl ⟨by rfl, ?_⟩) hHeld ?_; rotate_left; (intro w hSw; (have s2 := C2.out _ (bthen hbw.out hSw); clear hSw); (go_simp <;> with_reducible rfl)); simp only [List.getElem_toArray, List.getElem_cons_zero, List.getElem_cons_succ, Act.put, List.setIfInBounds_toArray, List.set_cons_zero, List.set_cons_succ])
      (refine wpAnyH_take (i := 13) (v := ?_) rfl (by kernel_rfl) (by kernel_rfl) (by kernel_rfl) (fun _ _ _ h => h) (Or.inl ⟨by rfl, ?_⟩) hHeld ?_; rotate_left; (intro w hSw; (have s2 := C2.out _ (bthen hbw.out hSw); clear hSw); (go_simp <;> with_reducible rfl)); simp only [List.getElem_toArray, List.getElem_cons_zero, List.getElem_cons_succ, Act.put, List.setIfInBounds_toArray, List.set_cons_zero, List.set_cons_succ])
      (refine wpAnyH_take (i := 14) (v := ?_) rfl (by kernel_rfl) (by kernel_rfl) (by kernel_rfl) (fun _ _ _ h => h) (Or.inl ⟨by rfl, ?_⟩) hHeld ?_; rotate_left; (intro w hSw; (have s2 := C2.out _ (bthen hbw.out hSw); clear hSw); (go_simp <;> with_reducible rfl)); simp only [List.getElem_toArray, List.getElem_cons_zero, List.getElem_cons_succ, Act.put, List.setIfInBounds_toArray, List.set_cons_zero, List.set_cons_succ])
      (refine wpAnyH_ready (rs := [10]) (by kernel_rfl) (by simp) ?_; refine AllReadyH.cons rfl (fun K hK => ?_) AllReadyH.nil; go_simp; (refine (HAt.out _ (bthen hbw.out hHeld) _ _ (by omega) (by omega) (by omega)).mono ?_; rintro e w9 ⟨r, rfl, hr0, hr1, hb9⟩; have hL9 := bthen hHeld hb9; have e4 : IntKind.i64.wrap (r - y) = r - y := wrapk_of (by omega) (by omega)); refine hK.out _ _ ?_ (fun hHeld => ?_); (first | exact hL9 | exact hL1); clear hK K; try dsimp only)
      (refine wpAnyH_take (i := 15) (v := ?_) rfl (by kernel_rfl) (by kernel_rfl) (by kernel_rfl) (fun _ _ _ h => h) (Or.inl ⟨by rfl, ?_⟩) hHeld ?_; rotate_left; (intro w hSw; (have s2 := C2.out _ (bthen hbw.out hSw); clear hSw); (go_simp <;> with_reducible rfl)); simp only [List.getElem_toArray, List.getElem_cons_zero, List.getElem_cons_succ, Act.put, List.setIfInBounds_toArray, List.set_cons_zero, List.set_cons_succ])
      (refine wpAnyH_take (i := 16) (v := ?_) rfl (by kernel_rfl) (by kernel_rfl) (by kernel_rfl) (fun _ _ _ h => h) (Or.inl ⟨by rfl, ?_⟩) hHeld ?_; rotate_left; (intro w hSw; (have s2 := C2.out _ (bthen hbw.out hSw); clear hSw); (go_simp <;> with_reducible rfl)); simp only [List.getElem_toArray, List.getElem_cons_zero, List.getElem_cons_succ, Act.put, List.setIfInBounds_toArray, List.set_cons_zero, List.set_cons_succ])
      refine wpAnyH_done (by kernel_rfl) ?_ _
      refine NoPanic.normal ?_
      have HW9 := hid hL9
      have ho := off_bd hr0 hr1
      have ha := hid (abs_small (b := y) (M := 1099511627776) ⟨by omega, by omega⟩)
      clear hL9 hL1 hHeld hb9 hr0 hr1 e4 e1 e2 e3
      generalize r - y = off at *
      go_wp2_with fail
      refine (HAt.out _ (bthen hbw.out HW9.out) _ _ (by omega) (by omega) (by omega)).mono ?_
      rintro e w10 ⟨r2, rfl, _, _, hb10⟩
      have HW10 := hid (bthen HW9.out hb10)
      have c2 := C2.out _ (bthen hbw.out HW10.out)
      clear hb10 HW9
      by_cases h20 : r2 = 0
      · subst h20
        have hoy := abs_le (b := y)
        go_wp2_with fail
        refine (HAt.out _ (bthen hbw.out HW10.out) _ _ (by omega) (by omega) (by omega)).mono ?_
        rintro e w11 ⟨r3, rfl, _, _, hb11⟩
        have HW11 := hid (bthen HW10.out hb11)
        have c2 := C2.out _ (bthen hbw.out HW11.out)
        clear hb11 HW10 HAt
        by_cases h30 : r3 = 0
        · subst h30
          have HO : Hid (smallI x → nr (absV y) (wrap64 (x + -y)) x) := fun q => nr_off (by omega) ha.out q
          have hob1 : -1099511627776 ≤ -y := by have := ha.out; omega
          have hob2 : -y ≤ 1099511627776 := by have := ha.out; omega
          have c1 := C1.out _ (bthen hbw.out HW11.out)
          have Ho : Hid (Lists.Own w.heap.size w11 gl cl ys) := App.Ow.later (show OwI w.heap.size wr (.slice (some ⟨gl, 0, none⟩) ys.length cl) ys from hown.out) HW11.out
          have hw11 := (bthen hbw.out HW11.out).size
          go_wp2_with (at_builtin; refine wpList_append_lies _ rfl _ _ 30 rfl w.heap.size 2 i0 (.int .i64 0) 1 8 Tryd.underlying30 hi hz0 hz1 hz2 rfl (by decide) _ ys.length _ rfl (World.ownsRow.alloc Ho.out _) ⟨w11.heap.size, 0, none⟩ 1 1 [.int .i64 (wrap64 (x + -y))] rfl rfl ?c1 ?c2 (by decide) ?c3 ?c4 ?c5 (w11.heap.size + 1) ?c6 ?_)
          case c1 =>
            intro j u hj
            match j, hj with
            | 0, hj => simp at hj; subst hj; simp [Addr.add]
          case c2 => intro u hu; simp at hu; subst hu; rfl
          case c3 => unfold maxLen; have := hyk.out; omega
          case c4 => have := hyk.out; omega
          case c5 => simp; omega
          case c6 => simp
          intro g2 cap2 w2 hown2 hgrow2 hat2 hlt2
          have hle := Ho.out.le
          have Ho2 := hid (own_snoc hown2)
          have HB2 := hid ((bmore (bthen hbw.out HW11.out) (.cells #[.int .i64 (wrap64 (x + -y))] 2)).trans (below_of_grown hgrow2 (by simp; omega) (fun j e => by cases e; exact hle.1)))
          have Hbe := hid (HBe.out _ HO.out)
          clear hown2 hgrow2 hat2 hlt2 Ho HO HBe HW11
          go_wp2
          go_roundw
          case rel => exact ⟨k + 1, g2, cap2, ys ++ [wrap64 (x + -y)], by go_num, by simp, by show _ = _; rw [List.length_append, hyk.out]; rfl, by omega, by omega, Hbe.out, Ho2.out, HB2.out⟩
          case measure => simp [intOf]; omega
        · have hq3 : (r3 == (0 : Int)) = false := beq_eq_false_iff_ne.2 h30
          have HO : Hid (smallI x → nr (absV y) (wrap64 (x + y)) x) := fun q => nr_off (by omega) ha.out q
          have hob1 : -1099511627776 ≤ y := by have := ha.out; omega
          have hob2 : y ≤ 1099511627776 := by have := ha.out; omega
          have c1 := C1.out _ (bthen hbw.out HW11.out)
          have Ho : Hid (Lists.Own w.heap.size w11 gl cl ys) := App.Ow.later (show OwI w.heap.size wr (.slice (some ⟨gl, 0, none⟩) ys.length cl) ys from hown.out) HW11.out
          have hw11 := (bthen hbw.out HW11.out).size
          go_wp2_with (at_builtin; refine wpList_append_lies _ rfl _ _ 30 rfl w.heap.size 2 i0 (.int .i64 0) 1 8 Tryd.underlying30 hi hz0 hz1 hz2 rfl (by decide) _ ys.length _ rfl (World.ownsRow.alloc Ho.out _) ⟨w11.heap.size, 0, none⟩ 1 1 [.int .i64 (wrap64 (x + y))] rfl rfl ?c1 ?c2 (by decide) ?c3 ?c4 ?c5 (w11.heap.size + 1) ?c6 ?_)
          case c1 =>
            intro j u hj
            match j, hj with
            | 0, hj => simp at hj; subst hj; simp [Addr.add]
          case c2 => intro u hu; simp at hu; subst hu; rfl
          case c3 => unfold maxLen; have := hyk.out; omega
          case c4 => have := hyk.out; omega
          case c5 => simp; omega
          case c6 => simp
          intro g2 cap2 w2 hown2 hgrow2 hat2 hlt2
          have hle := Ho.out.le
          have Ho2 := hid (own_snoc hown2)
          have HB2 := hid ((bmore (bthen hbw.out HW11.out) (.cells #[.int .i64 (wrap64 (x + y))] 2)).trans (below_of_grown hgrow2 (by simp; omega) (fun j e => by cases e; exact hle.1)))
          have Hbe := hid (HBe.out _ HO.out)
          clear hown2 hgrow2 hat2 hlt2 Ho HO HBe HW11
          go_wp2
          go_roundw
          case rel => exact ⟨k + 1, g2, cap2, ys ++ [wrap64 (x + y)], by go_num, by simp, by show _ = _; rw [List.length_append, hyk.out]; rfl, by omega, by omega, Hbe.out, Ho2.out, HB2.out⟩
          case measure => simp [intOf]; omega
      · have hq2 : (r2 == (0 : Int)) = false := beq_eq_false_iff_ne.2 h20
        have hoy := abs_le (b := y)
        go_wp2_with fail
        refine (HAt.out _ (bthen hbw.out HW10.out) _ _ (by omega) (by omega) (by omega)).mono ?_
        rintro e w11 ⟨r3, rfl, _, _, hb11⟩
        have HW11 := hid (bthen HW10.out hb11)
        have c2 := C2.out _ (bthen hbw.out HW11.out)
        clear hb11 HW10 HAt
        by_cases h30 : r3 = 0
        · subst h30
          have HO : Hid (smallI x → nr (absV y) (wrap64 (x + -y)) x) := fun q => nr_off (by omega) ha.out q
          have hob1 : -1099511627776 ≤ -y := by have := ha.out; omega
          have hob2 : -y ≤ 1099511627776 := by have := ha.out; omega
          have c1 := C1.out _ (bthen hbw.out HW11.out)
          have Ho : Hid (Lists.Own w.heap.size w11 gl cl ys) := App.Ow.later (show OwI w.heap.size wr (.slice (some ⟨gl, 0, none⟩) ys.length cl) ys from hown.out) HW11.out
          have hw11 := (bthen hbw.out HW11.out).size
          go_wp2_with (at_builtin; refine wpList_append_lies _ rfl _ _ 30 rfl w.heap.size 2 i0 (.int .i64 0) 1 8 Tryd.underlying30 hi hz0 hz1 hz2 rfl (by decide) _ ys.length _ rfl (World.ownsRow.alloc Ho.out _) ⟨w11.heap.size, 0, none⟩ 1 1 [.int .i64 (wrap64 (x + -y))] rfl rfl ?c1 ?c2 (by decide) ?c3 ?c4 ?c5 (w11.heap.size + 1) ?c6 ?_)
          case c1 =>
            intro j u hj
            match j, hj with
            | 0, hj => simp at hj; subst hj; simp [Addr.add]
          case c2 => intro u hu; simp at hu; subst hu; rfl
          case c3 => unfold maxLen; have := hyk.out; omega
          case c4 => have := hyk.out; omega
          case c5 => simp; omega
          case c6 => simp
          intro g2 cap2 w2 hown2 hgrow2 hat2 hlt2
          have hle := Ho.out.le
          have Ho2 := hid (own_snoc hown2)
          have HB2 := hid ((bmore (bthen hbw.out HW11.out) (.cells #[.int .i64 (wrap64 (x + -y))] 2)).trans (below_of_grown hgrow2 (by simp; omega) (fun j e => by cases e; exact hle.1)))
          have Hbe := hid (HBe.out _ HO.out)
          clear hown2 hgrow2 hat2 hlt2 Ho HO HBe HW11
          go_wp2
          go_roundw
          case rel => exact ⟨k + 1, g2, cap2, ys ++ [wrap64 (x + -y)], by go_num, by simp, by show _ = _; rw [List.length_append, hyk.out]; rfl, by omega, by omega, Hbe.out, Ho2.out, HB2.out⟩
          case measure => simp [intOf]; omega
        · have hq3 : (r3 == (0 : Int)) = false := beq_eq_false_iff_ne.2 h30
          have HO : Hid (smallI x → nr (absV y) (wrap64 (x + off)) x) := fun q => nr_off (by omega) ha.out q
          have hob1 : -1099511627776 ≤ off := by have := ha.out; omega
          have hob2 : off ≤ 1099511627776 := by have := ha.out; omega
          have c1 := C1.out _ (bthen hbw.out HW11.out)
          have Ho : Hid (Lists.Own w.heap.size w11 gl cl ys) := App.Ow.later (show OwI w.heap.size wr (.slice (some ⟨gl, 0, none⟩) ys.length cl) ys from hown.out) HW11.out
          have hw11 := (bthen hbw.out HW11.out).size
          go_wp2_with (at_builtin; refine wpList_append_lies _ rfl _ _ 30 rfl w.heap.size 2 i0 (.int .i64 0) 1 8 Tryd.underlying30 hi hz0 hz1 hz2 rfl (by decide) _ ys.length _ rfl (World.ownsRow.alloc Ho.out _) ⟨w11.heap.size, 0, none⟩ 1 1 [.int .i64 (wrap64 (x + off))] rfl rfl ?c1 ?c2 (by decide) ?c3 ?c4 ?c5 (w11.heap.size + 1) ?c6 ?_)
          case c1 =>
            intro j u hj
            match j, hj with
            | 0, hj => simp at hj; subst hj; simp [Addr.add]
          case c2 => intro u hu; simp at hu; subst hu; rfl
          case c3 => unfold maxLen; have := hyk.out; omega
          case c4 => have := hyk.out; omega
          case c5 => simp; omega
          case c6 => simp
          intro g2 cap2 w2 hown2 hgrow2 hat2 hlt2
          have hle := Ho.out.le
          have Ho2 := hid (own_snoc hown2)
          have HB2 := hid ((bmore (bthen hbw.out HW11.out) (.cells #[.int .i64 (wrap64 (x + off))] 2)).trans (below_of_grown hgrow2 (by simp; omega) (fun j e => by cases e; exact hle.1)))
          have Hbe := hid (HBe.out _ HO.out)
          clear hown2 hgrow2 hat2 hlt2 Ho HO HBe HW11
          go_wp2
          go_roundw
          case rel => exact ⟨k + 1, g2, cap2, ys ++ [wrap64 (x + off)], by go_num, by simp, by show _ = _; rw [List.length_append, hyk.out]; rfl, by omega, by omega, Hbe.out, Ho2.out, HB2.out⟩
          case measure => simp [intOf]; omega
    · have hkm : k = min L.length B.length := by omega
      have HR := hid (hyk.out.trans hkm)
      have hg : ¬ ((k : Int) < (L.length : Int)) ∨ ((k : Int) < (L.length : Int) ∧ ¬ ((k : Int) < (B.length : Int))) := by omega
      clear hlt hkm hyk H1 H2 HAt HB
      rcases hg with q1 | ⟨q1, q2⟩
      all_goals
        go_wp2
        go_ret
        exact ⟨gl, cl, ys, rfl, hown.out, HR.out, hbe.out, hbw.out⟩
end Go.Proofs.YtbakmphopgkpmaaDoor.LwB
