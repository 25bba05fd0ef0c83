/- The program unites two halves by a way that is handed in. Condition: the table of turns, halves that can be united, numbers that are not too great (bounds: not below 0). -/
import Derived.Test.YtbakmphopgkpmaaDoorHvI
import Derived.Test.YtbakmphopgkpmaaDoorTeB
namespace Go.Proofs.YtbakmphopgkpmaaDoor.UnI
open Go.ChangeShapes Go.WideShapes Go.ChangeAt Go.RowKit Go.Proofs.YtbakmphopgkpmaaDoor.Num Go.Proofs.YtbakmphopgkpmaaDoor.Sli Go.Proofs.YtbakmphopgkpmaaDoor.App Go.Proofs.YtbakmphopgkpmaaDoor.Samp Go.Proofs.YtbakmphopgkpmaaDoor.Blk Go.Proofs.YtbakmphopgkpmaaDoor.TurM Go.Proofs.YtbakmphopgkpmaaDoor.HalM Go.Proofs.YtbakmphopgkpmaaDoor.IntL Go.Proofs.YtbakmphopgkpmaaDoor.TurI Go.Proofs.YtbakmphopgkpmaaDoor.WayM Go.Proofs.YtbakmphopgkpmaaDoor.WayJ Go.Proofs.YtbakmphopgkpmaaDoor.Par Go.Proofs.YtbakmphopgkpmaaDoor.BkI Go.Proofs.YtbakmphopgkpmaaDoor.TeB Go.Proofs.YtbakmphopgkpmaaDoor.HvI

theorem fst_get (A D : List Int) (i : Nat) (h : i < A.length) : (A ++ D).getD i 0 = A.getD i 0 := by
  simp [List.getD_eq_getElem?_getD, List.getElem?_append_left h]
theorem fst_set (A D : List Int) (i : Nat) (x : Int) (h : i < A.length) : (A ++ D).set i x = A.set i x ++ D := by
  rw [List.set_append_left _ _ h]
/-- What becomes of both halves, place by place. -/
def pA (kd : Bool) (s e : List Int) (j : Nat) : Int := wP kd (s.getD j 0) (e.getD j 0)
def pB (kd : Bool) (s e : List Int) (j : Nat) : Int := wQ kd (s.getD j 0) (e.getD j 0)
theorem un_parts (kd : Bool) (s e : List Int) (m : Nat) : mkL m (pA kd s e) ++ (mkL m (pB kd s e)).reverse = mkL (2 * m) (wU kd (2 * m) s e) := by
  apply ext_g (by rw [List.length_append, List.length_reverse, mkL_len, mkL_len, mkL_len]; omega)
  intro j hj
  rw [List.length_append, List.length_reverse, mkL_len, mkL_len] at hj
  rw [mkL_get _ (by omega)]
  unfold wU
  rw [show 2 * m / 2 = m by omega]
  by_cases h : j < m
  · rw [if_pos h, fst_get _ _ _ (by rw [mkL_len]; exact h), mkL_get _ h]; rfl
  · rw [if_neg h]
    obtain ⟨i, rfl⟩ : ∃ i, j = m + i := ⟨j - m, by omega⟩
    have := sec_get (mkL m (pA kd s e)) (mkL m (pB kd s e)).reverse i
    rw [mkL_len] at this
    rw [this, rev_get _ _ (by rw [mkL_len]; omega), mkL_len, mkL_get _ (by omega), show 2 * m - 1 - (m + i) = m - 1 - i by omega]; rfl
/-- What is kept while halves are united: the list in a block of its own. -/
structure UV (w : World) (g : Nat) (L : List Int) (W : World) : Prop where
  l : w.heap.size ≤ g
  b : Bi W g L
  k : Below w.heap.size w W
section
variable {w W W' : World} {g : Nat} {L : List Int}
theorem UV.later (h : UV w g L W) (hb : Below W.heap.size W W') : UV w g L W' := ⟨h.l, h.b.later hb, bthen h.k hb⟩
theorem UV.new {L' : List Int} (h : UV w g L W) (hB : Bi W' g L') (hg : W.grownBy W' (some g)) : UV w g L' W' := ⟨h.l, hB, h.k.trans (below_of_grown hg h.k.size (fun j e => by cases e; exact h.l))⟩
theorem UV.drew (h : UV w g L W) : UV w g L W.drew := ⟨h.l, h.b, h.k.drew⟩
end
/-- So, and the way in its box. -/
structure UW (w : World) (ya : Array Value) (g : Nat) (L : List Int) (W : World) : Prop where
  l : w.heap.size < g
  y : Blk W w.heap.size ya 77
  b : Bi W g L
  k : Below w.heap.size w W
section
variable {w W W' : World} {ya : Array Value} {g : Nat} {L : List Int}
theorem UW.later (h : UW w ya g L W) (hb : Below W.heap.size W W') : UW w ya g L W' := ⟨h.l, h.y.later hb, h.b.later hb, bthen h.k hb⟩
theorem UW.new {L' : List Int} (h : UW w ya g L W) (hB : Bi W' g L') (hg : W.grownBy W' (some g)) : UW w ya g L' W' :=
  ⟨h.l, h.y.kept hg (fun e => by have := h.l; cases e; omega), hB, h.k.trans (below_of_grown hg h.k.size (fun j e => by cases e; exact Nat.le_of_lt h.l))⟩
theorem UW.uv (h : UW w ya g L W) : UV w g L W := ⟨Nat.le_of_lt h.l, h.b, h.k⟩
theorem UW.way {kd : Bool} {sg : Nat} (h : UW w ya g L W) (hs : Blk w sg (stepsV kd) 115) (hg : W.grownBy W' (some g)) : WayV kd W' (wayV kd sg) :=
  ⟨sg, rfl, (hs.later h.k).kept hg (fun e => by have := h.l; have := hs.lt; cases e; omega)⟩
end
set_option maxHeartbeats 4000000 in
theorem unite_calls (kd : Bool) (hkd : has kd) (wv : Value) (vs vd : Value) (s d : List Int) (w : World) (hs : Sl .i64 w vs s) (hd : Sl .i64 w vd d) (hn : sz4 (2 * s.length)) (hl : d.length = s.length) (l1 : wlim kd 34359738368 s) (l2 : wlim kd 34359738368 d) (hT : Tab w) (hwv : WayV kd w wv) :
    Calls Tryd.prog 105 #[vs, vd, wv] w fun e w' => ∃ g, e = .returned (.slice (some ⟨g, 0, none⟩) (2 * s.length) (2 * s.length)) ∧ UV w g (wun kd s d) w' := by
  obtain ⟨sg, rfl, hSB⟩ := hwv
  have HSB := hid hSB
  obtain ⟨-, -, qP⟩ := ent_all kd hkd
  have hmf : ∀ (fn : Fn) (first cap : Array Value) (w : World), (Instr.makeFunc fn first cap).run Tryd.prog w = .ok (.func fn first cap) w := fun _ _ _ _ => rfl
  unfold wayV
  have Hn := hid hn
  have HLs := hid l1
  have HLe := hid (wlim_prL (n := 2 * s.length) hn l2)
  have HLd := hid (l2.mono (N := 137438953472) (by omega))
  have HT := hid hT
  have n2 : 1 ≤ s.length ∧ s.length ≤ 8 := by unfold sz4 at hn; omega
  have hns : s ≠ [] := by intro e; rw [e] at n2; simp at n2
  have hnd : d ≠ [] := by intro e; rw [e] at hl; rw [← hl] at n2; simp at n2
  obtain ⟨a, cap, rfl, hc⟩ := hs
  obtain ⟨b, off, rfl, hbl, hcell⟩ := hc hns
  obtain ⟨a2, cap2, rfl, hc2⟩ := hd
  obtain ⟨b2, off2, rfl, hbl2, hcell2⟩ := hc2 hnd
  have HC := hid hcell
  rw [hl] at hcell2
  have HC2 := hid hcell2
  have HU : Hid (wun kd s d = mkL (2 * s.length) (wU kd (2 * s.length) s (prL (wF kd (2 * s.length)) (2 * s.length) d))) := rfl
  rw [hl]
  have Hl := hid hl
  clear hc hc2 hcell hcell2 hns hnd hn l1 l2 hT hl hSB
  generalize wun kd s d = R at *
  generalize hmm : s.length = m at *
  have Hm := hid hmm
  clear hmm
  obtain ⟨N, hN⟩ : ∃ N : Nat, 2 * m = N := ⟨_, rfl⟩
  have hNI : 2 * (m : Int) = (N : Int) := by omega
  have hNm : N - m = m := by omega
  have hNm2 : (m : Int) ≤ (N : Int) := by omega
  have hN16 : N ≤ 16 ∧ m ≤ N := by omega
  have HN := hid hN
  rw [hN]
  clear hN
  have hmk := make_i N (by omega)
  have mixed := mixed_orders
  go_enter Tryd.func105, Tryd.ntmps105
  go_wp2_with fail
  go_region_o
  have HK : Hid (UW w #[.slice (some ⟨sg, 0, none⟩) 3 3, .func (.func (fP kd)) #[] #[]] (w.heap.size + 1) (List.replicate N 0) ((w.alloc (.cells #[.slice (some ⟨sg, 0, none⟩) 3 3, .func (.func (fP kd)) #[] #[]] 77)).alloc (.cells (cs (List.replicate N 0)) 2)).drew) := by
    obtain ⟨h1, h2, h3, _⟩ := boxes2 (w := w) (A := #[.slice (some ⟨sg, 0, none⟩) 3 3, .func (.func (fP kd)) #[] #[]]) (B := cs (List.replicate N 0)) (t := 77) (u := 2) (Below.refl _ _)
    exact ⟨by omega, h1, h2, h3.drew⟩
  clear hmk
  go_wp2_with (refine wpList_copy_bi _ rfl _ _ rfl (w.heap.size + 1) 0 m N b off m cap rfl rfl (List.replicate N 0) s HK.out.b ?c1 ?c2 ?c3 (s ++ List.replicate m 0) ?c4 m Hm.out ?_)
  case c1 => rw [Hm.out]; exact (Nat.min_self m).symm
  case c2 =>
    intro i hi
    rw [Hm.out] at hi
    rw [HK.out.k.cell (p := ⟨b, off + i, none⟩) hbl, HC.out i hi]
  case c3 => rw [Hm.out, List.length_replicate]; omega
  case c4 => rw [Hm.out, List.take_zero, List.nil_append, List.drop_replicate, show N - (0 + m) = m by omega]
  intro w1 hB1 hg1
  have HK1 := hid (HK.out.new hB1 hg1)
  clear hB1 hg1 HK
  go_wp2_with (refine wpList_copy_bi _ rfl _ _ rfl (w.heap.size + 1) m m m b2 off2 m cap2 rfl rfl (s ++ List.replicate m 0) d HK1.out.b ?c1 ?c2 ?c3 (s ++ d) ?c4 m Hl.out ?_)
  case c1 => rw [Hl.out]; exact (Nat.min_self m).symm
  case c2 =>
    intro i hi
    rw [Hl.out] at hi
    rw [HK1.out.k.cell (p := ⟨b2, off2 + i, none⟩) hbl2, HC2.out i hi]
  case c3 => rw [Hl.out, List.length_append, List.length_replicate, Hm.out]; omega
  case c4 =>
    have e := Hm.out
    rw [Hl.out, List.drop_of_length_le (by rw [List.length_append, List.length_replicate, Hm.out]; omega), List.append_nil]
    subst e
    rw [List.take_left]
  intro w2 hB2 hg2
  have HK2 := hid (HK1.out.new hB2 hg2)
  clear hB2 hg2 HK1 HC HC2
  obtain ⟨y0, y1, _, _⟩ := HK2.out.y.two
  go_wp2_with fail
  refine (endsBack_calls kd hkd (wayV kd sg) (w.heap.size + 1) m m m s d _ HK2.out.b Hm.out Hl.out Hn.out HLd.out (by omega) (HT.out.later HK2.out.k) (fun W hW => HK2.out.way HSB.out hW)).mono ?_
  rintro e w3 ⟨rfl, hB3, hg3⟩
  have HK3 := hid (HK2.out.new hB3 hg3)
  clear hB3 hg3 HK2 y0 y1
  have HE : Hid ((prL (wF kd (2 * m)) (2 * m) d).length = m) := by show _ = _; rw [prL_len]; omega
  generalize prL (wF kd (2 * m)) (2 * m) d = ee at *
  have HEnd := hid (un_parts kd s ee m)
  rw [← HU.out] at HEnd
  have HK4 : Hid (UW w #[.slice (some ⟨sg, 0, none⟩) 3 3, .func (.func (fP kd)) #[] #[]] (w.heap.size + 1) (mx m 0 (pA kd s ee) (fun j => s.getD j 0) ++ mx m 0 (pB kd s ee) (fun j => ee.getD j 0)) w3) := by
    have e1 : mkL m (fun j => s.getD j 0) = s := by have := mkL_self s; rwa [Hm.out] at this
    have e2 : mkL m (fun j => ee.getD j 0) = ee := by have := mkL_self ee; rwa [HE.out] at this
    rw [mx_zero, mx_zero, e1, e2]; exact HK3
  clear HK3 HU
  have HSe := hid (fun i => show pA kd s ee i = wP kd (s.getD i 0) (ee.getD i 0) from rfl)
  have HDe := hid (fun i => show pB kd s ee i = wQ kd (s.getD i 0) (ee.getD i 0) from rfl)
  have HP := hid pairOf_calls
  generalize pA kd s ee = fs at *
  generalize pB kd s ee = fd at *
  generalize hos : (fun j => s.getD j 0) = os at *
  generalize hod : (fun j => ee.getD j 0) = od at *
  have HOs : Hid (∀ i, os i = s.getD i 0) := fun i => by rw [← hos]
  have HOd : Hid (∀ i, od i = ee.getD i 0) := fun i => by rw [← hod]
  clear hos hod
  generalize hgg : w.heap.size + 1 = g at *
  have Hg := hid hgg
  go_wp2
  go_loopw [35] (fun i wr => ∃ k : Nat, i = .int .i64 (k : Int) ∧ k ≤ m ∧ Hid (UW w #[.slice (some ⟨sg, 0, none⟩) 3 3, .func (.func (fP kd)) #[] #[]] g (mx m k fs os ++ mx m k fd od) wr)) (fun i _ => m - (intOf i).toNat)
  case atStart => exact ⟨0, rfl, Nat.zero_le _, HK4⟩
  case round =>
    obtain ⟨k, rfl, hk, HK⟩ := hrel
    clear HK4
    by_cases hlt : k < m
    · have hs0 := HSe.out k
      have hd0 := HDe.out k
      have hx := HLs.out k
      have hy := HLe.out k
      have HMx := hid (fun W => part_calls kd hkd (s.getD k 0) (ee.getD k 0) W (hx.mono (by omega)) (hy.mono (by omega)))
      rw [← hs0, ← hd0] at HMx
      have HCe : Hid (∀ W, UW w #[.slice (some ⟨sg, 0, none⟩) 3 3, .func (.func (fP kd)) #[] #[]] g (mx m k fs os ++ mx m k fd od) W → (W.cell? ⟨g, k, none⟩ = some (.int .i64 (s.getD k 0)) ∧ W.frozen? ⟨g, k, none⟩ = false) ∧ (W.cell? ⟨g, m + k, none⟩ = some (.int .i64 (ee.getD k 0)) ∧ W.frozen? ⟨g, m + k, none⟩ = false)) := by
        intro W hW
        have c1 := hW.b.cell k (by rw [List.length_append, mx_len, mx_len]; omega)
        have c2 := hW.b.cell (m + k) (by rw [List.length_append, mx_len, mx_len]; omega)
        have e2 := sec_get (mx m k fs os) (mx m k fd od) k
        rw [mx_len] at e2
        rw [fst_get _ _ _ (by rw [mx_len]; exact hlt), mx_get _ _ hlt, HOs.out k] at c1
        rw [e2, mx_get _ _ hlt, HOd.out k] at c2
        exact ⟨c1, c2⟩
      have HN2 : Hid (∀ W, UW w #[.slice (some ⟨sg, 0, none⟩) 3 3, .func (.func (fP kd)) #[] #[]] g (mx m k fs os ++ mx m k fd od) W → UW w #[.slice (some ⟨sg, 0, none⟩) 3 3, .func (.func (fP kd)) #[] #[]] g (mx m (k + 1) fs os ++ mx m (k + 1) fd od) ((W.setCell ⟨g, k, none⟩ (.int .i64 (fs k))).setCell ⟨g, m + k, none⟩ (.int .i64 (fd k))).drew) := by
        intro W hW
        have h1 := (hW.b.set k (fs k)).set (m + k) (fd k)
        rw [fst_set _ _ _ _ (by rw [mx_len]; exact hlt), mx_set] at h1
        have e2 := sec_set (mx m (k + 1) fs os) (mx m k fd od) k (fd k)
        rw [mx_len] at e2
        rw [e2, mx_set] at h1
        have hlt2 := hW.l
        exact ⟨hW.l, (hW.y.other (by omega) _ _).other (by omega) _ _, h1, (below_cell (below_cell hW.k (by omega) _ _) (by omega) _ _).drew⟩
      have hkI : (k : Int) < (m : Int) := by omega
      have hkg : k ≠ m + k := by omega
      clear hs0 hd0 hx hy hgg
      generalize s.getD k 0 = x at *
      generalize ee.getD k 0 = y at *
      generalize fs k = xa at *
      generalize fd k = xb at *
      go_upto_region 10 with fail
      go_cut [12] from 38 to 49 (fun z wc => ∃ E : Nat, z = .pointer (some ⟨E, 0, none⟩) ∧ wr.heap.size ≤ E ∧ Hid (Blk wc E #[.int .i64 xa, .int .i64 xb] 69) ∧ Hid (Below wr.heap.size wr wc))
      case first =>
        have hL0 : Below wr.heap.size wr wr.drew := (Below.refl _ wr).drew
        have hA1 : Below wr.heap.size wr (wr.alloc (.cells #[.int .i64 0, .int .i64 0] 69)).drew := (bmore (Below.refl _ wr) _).drew
        have hE1 : Blk (wr.alloc (.cells #[.int .i64 0, .int .i64 0] 69)).drew wr.heap.size #[.int .i64 0, .int .i64 0] 69 := Blk.new wr _ _
        obtain ⟨⟨c1, _⟩, ⟨c2, _⟩⟩ := HCe.out _ HK.out
        have hgs := HK.out.b.lt
        obtain ⟨y3, y4, _, _⟩ := HK.out.y.two
        have hys := HK.out.y.lt
        have hy5 : ∀ W, Below wr.heap.size wr W → W.cell? ⟨w.heap.size, 1, none⟩ = some (.func (.func (fP kd)) #[] #[]) := fun W h => (h.cell (p := ⟨w.heap.size, 1, none⟩) hys).trans y4
        refine wp_region_noPanic ?_
        refine wp_region_held_drew (S := fun W => Below wr.heap.size wr W) (by kernel_rfl) (by first | exact hP9 | exact hL9 | exact hL8 | exact hP7 | exact hL7 | exact hA1 | exact hL0) (fun hHeld => ?_)
        (refine wpAnyH_take (i := 0) (v := ?_) rfl (by kernel_rfl) (by kernel_rfl) (by kernel_rfl) (fun _ _ _ h => h) (Or.inl ⟨by rfl, ?_⟩) hHeld ?_; rotate_left; (intro w hSw; (have s1 := (hSw.cell (p := ⟨g, k, none⟩) hgs).trans c1; have s2 := (hSw.cell (p := ⟨g, m + k, none⟩) hgs).trans c2; have s3 := hy5 _ hSw; clear hSw); (go_simp <;> with_reducible rfl)); simp only [List.getElem_toArray, List.getElem_cons_zero, Act.put, List.setIfInBounds_toArray, List.set_cons_zero, List.set_cons_succ])
        (refine wpAnyH_take (i := 1) (v := ?_) rfl (by kernel_rfl) (by kernel_rfl) (by kernel_rfl) (fun _ _ _ h => h) (Or.inl ⟨by rfl, ?_⟩) hHeld ?_; rotate_left; (intro w hSw; (have s1 := (hSw.cell (p := ⟨g, k, none⟩) hgs).trans c1; have s2 := (hSw.cell (p := ⟨g, m + k, none⟩) hgs).trans c2; have s3 := hy5 _ hSw; clear hSw); (go_simp <;> with_reducible rfl)); simp only [List.getElem_toArray, List.getElem_cons_zero, List.getElem_cons_succ, Act.put, List.setIfInBounds_toArray, List.set_cons_zero, List.set_cons_succ])
        (refine wpAnyH_take (i := 2) (v := ?_) rfl (by kernel_rfl) (by kernel_rfl) (by kernel_rfl) (fun _ _ _ h => h) (Or.inl ⟨by rfl, ?_⟩) hHeld ?_; rotate_left; (intro w hSw; (have s1 := (hSw.cell (p := ⟨g, k, none⟩) hgs).trans c1; have s2 := (hSw.cell (p := ⟨g, m + k, none⟩) hgs).trans c2; have s3 := hy5 _ hSw; clear hSw); (go_simp <;> with_reducible rfl)); simp only [List.getElem_toArray, List.getElem_cons_zero, List.getElem_cons_succ, Act.put, List.setIfInBounds_toArray, List.set_cons_zero, List.set_cons_succ])
        (refine wpAnyH_take (i := 3) (v := ?_) rfl (by kernel_rfl) (by kernel_rfl) (by kernel_rfl) (fun _ _ _ h => h) (Or.inl ⟨by rfl, ?_⟩) hHeld ?_; rotate_left; (intro w hSw; (have s1 := (hSw.cell (p := ⟨g, k, none⟩) hgs).trans c1; have s2 := (hSw.cell (p := ⟨g, m + k, none⟩) hgs).trans c2; have s3 := hy5 _ hSw; clear hSw); (go_simp <;> with_reducible rfl)); simp only [List.getElem_toArray, List.getElem_cons_zero, List.getElem_cons_succ, Act.put, List.setIfInBounds_toArray, List.set_cons_zero, List.set_cons_succ])
        (refine wpAnyH_take (i := 4) (v := ?_) rfl (by kernel_rfl) (by kernel_rfl) (by kernel_rfl) (fun _ _ _ h => h) (Or.inl ⟨by rfl, ?_⟩) hHeld ?_; rotate_left; (intro w hSw; (have s1 := (hSw.cell (p := ⟨g, k, none⟩) hgs).trans c1; have s2 := (hSw.cell (p := ⟨g, m + k, none⟩) hgs).trans c2; have s3 := hy5 _ hSw; clear hSw); (go_simp <;> with_reducible rfl)); simp only [List.getElem_toArray, List.getElem_cons_zero, List.getElem_cons_succ, Act.put, List.setIfInBounds_toArray, List.set_cons_zero, List.set_cons_succ])
        (refine wpAnyH_take (i := 5) (v := ?_) rfl (by kernel_rfl) (by kernel_rfl) (by kernel_rfl) (fun _ _ _ h => h) (Or.inl ⟨by rfl, ?_⟩) hHeld ?_; rotate_left; (intro w hSw; (have s1 := (hSw.cell (p := ⟨g, k, none⟩) hgs).trans c1; have s2 := (hSw.cell (p := ⟨g, m + k, none⟩) hgs).trans c2; have s3 := hy5 _ hSw; clear hSw); (go_simp <;> with_reducible rfl)); simp only [List.getElem_toArray, List.getElem_cons_zero, List.getElem_cons_succ, Act.put, List.setIfInBounds_toArray, List.set_cons_zero, List.set_cons_succ])
        (refine wpAnyH_take (i := 6) (v := ?_) rfl (by kernel_rfl) (by kernel_rfl) (by kernel_rfl) (fun _ _ _ h => h) (Or.inl ⟨by rfl, ?_⟩) hHeld ?_; rotate_left; (intro w hSw; (have s1 := (hSw.cell (p := ⟨g, k, none⟩) hgs).trans c1; have s2 := (hSw.cell (p := ⟨g, m + k, none⟩) hgs).trans c2; have s3 := hy5 _ hSw; clear hSw); (go_simp <;> with_reducible rfl)); simp only [List.getElem_toArray, List.getElem_cons_zero, List.getElem_cons_succ, Act.put, List.setIfInBounds_toArray, List.set_cons_zero, List.set_cons_succ])
        (refine wpAnyH_take (i := 7) (v := ?_) rfl (by kernel_rfl) (by kernel_rfl) (by kernel_rfl) (fun _ _ _ h => h) (Or.inl ⟨by rfl, ?_⟩) hHeld ?_; rotate_left; (intro w hSw; (have s1 := (hSw.cell (p := ⟨g, k, none⟩) hgs).trans c1; have s2 := (hSw.cell (p := ⟨g, m + k, none⟩) hgs).trans c2; have s3 := hy5 _ hSw; clear hSw); (go_simp <;> with_reducible rfl)); simp only [List.getElem_toArray, List.getElem_cons_zero, List.getElem_cons_succ, Act.put, List.setIfInBounds_toArray, List.set_cons_zero, List.set_cons_succ])
        (refine wpAnyH_take (i := 8) (v := ?_) rfl (by kernel_rfl) (by kernel_rfl) (by kernel_rfl) (fun _ _ _ h => h) (Or.inl ⟨by rfl, ?_⟩) hHeld ?_; rotate_left; (intro w hSw; (have s1 := (hSw.cell (p := ⟨g, k, none⟩) hgs).trans c1; have s2 := (hSw.cell (p := ⟨g, m + k, none⟩) hgs).trans c2; have s3 := hy5 _ hSw; clear hSw); (go_simp <;> with_reducible rfl)); simp only [List.getElem_toArray, List.getElem_cons_zero, List.getElem_cons_succ, Act.put, List.setIfInBounds_toArray, List.set_cons_zero, List.set_cons_succ])
        (refine wpAnyH_take (i := 9) (v := ?_) rfl (by kernel_rfl) (by kernel_rfl) (by kernel_rfl) (fun _ _ _ h => h) (Or.inl ⟨by rfl, ?_⟩) hHeld ?_; rotate_left; (intro w hSw; (have s1 := (hSw.cell (p := ⟨g, k, none⟩) hgs).trans c1; have s2 := (hSw.cell (p := ⟨g, m + k, none⟩) hgs).trans c2; have s3 := hy5 _ hSw; clear hSw); (go_simp <;> with_reducible rfl)); simp only [List.getElem_toArray, List.getElem_cons_zero, List.getElem_cons_succ, Act.put, List.setIfInBounds_toArray, List.set_cons_zero, List.set_cons_succ])
        refine wpAnyH_ready (rs := [10, 12]) (by kernel_rfl) (by simp) ?_
        refine (AllReadyH.cons rfl (fun K hK => ?_) (AllReadyH.cons rfl (fun K hK => ?_) AllReadyH.nil))
        · go_simp
          (refine (HP.out _ _ _).mono ?_; rintro e w8 ⟨rfl, hb8⟩; have hL8 := bthen hHeld hb8; have hL7 := bmore hL8 (.cells #[.int .i64 0, .int .i64 0] 69); have hE8 := Blk.new w8 #[.int .i64 0, .int .i64 0] 69; have hle8 : wr.heap.size ≤ w8.heap.size := hL8.size)
          refine hK.out _ _ (by first | exact hP9 | exact hL9 | exact hL8 | exact hP7 | exact hL7 | exact hA1 | exact hL0) (fun hHeld => ?_)
          clear hK K
          try dsimp only
          refine wpAnyH_ready (rs := [11, 12]) (by kernel_rfl) (by simp) ?_
          refine (AllReadyH.cons rfl (fun K hK => ?_) (AllReadyH.cons rfl (fun K hK => ?_) AllReadyH.nil))
          · go_simp
            (refine (HMx.out _).mono ?_; rintro e w9 ⟨rfl, hb9⟩; have hL9 := bthen hHeld hb9; clear hE8; have hle8 : wr.heap.size ≤ w9.heap.size := hL9.size; have hL7 := bmore hL9 (.cells #[.int .i64 0, .int .i64 0] 69); have hP7 := bmore hL9 (.cells #[.int .i64 xa, .int .i64 xb] 69); have hQ9 := Blk.new w9 #[.int .i64 xa, .int .i64 xb] 69)
            refine hK.out _ _ (by first | exact hP9 | exact hL9 | exact hL8 | exact hP7 | exact hL7 | exact hA1 | exact hL0) (fun hHeld => ?_)
            clear hK K
            try dsimp only
            refine wpAnyH_ready (rs := [12]) (by kernel_rfl) (by simp) ?_
            refine (AllReadyH.cons rfl (fun K hK => ?_) AllReadyH.nil)
            go_simp
            skip
            refine hK.out _ _ (by first | exact hP9 | exact hL9 | exact hL8 | exact hP7 | exact hL7 | exact hA1 | exact hL0) (fun hHeld => ?_)
            clear hK K
            try simp only [List.getElem_toArray, List.getElem_cons_zero, List.getElem_cons_succ, Act.put, List.setIfInBounds_toArray, List.set_cons_zero, List.set_cons_succ]
            refine wpAnyH_ready (rs := [13]) (by kernel_rfl) (by simp) ?_
            refine (AllReadyH.cons rfl (fun K hK => ?_) AllReadyH.nil)
            go_simp
            skip
            refine hK.out _ _ (by first | exact hP9 | exact hL9 | exact hL8 | exact hP7 | exact hL7 | exact hA1 | exact hL0) (fun hHeld => ?_)
            clear hK K
            try simp only [List.getElem_toArray, List.getElem_cons_zero, List.getElem_cons_succ, Act.put, List.setIfInBounds_toArray, List.set_cons_zero, List.set_cons_succ]
            refine wpAnyH_done (by kernel_rfl) ?_ _
            refine NoPanic.normal ?_
            go_wp2_with fail
            go_meet
            case rel => first | exact ⟨_, rfl, hle8, hQ9, hP9⟩ | exact ⟨_, rfl, hle8, hQ9, hP7⟩
          · go_simp
            skip
            refine hK.out _ _ (by first | exact hP9 | exact hL9 | exact hL8 | exact hP7 | exact hL7 | exact hA1 | exact hL0) (fun hHeld => ?_)
            clear hK K
            try simp only [List.getElem_toArray, List.getElem_cons_zero, List.getElem_cons_succ, Act.put, List.setIfInBounds_toArray, List.set_cons_zero, List.set_cons_succ]
            refine wpAnyH_ready (rs := [11]) (by kernel_rfl) (by simp) ?_
            refine (AllReadyH.cons rfl (fun K hK => ?_) AllReadyH.nil)
            go_simp
            (refine (HMx.out _).mono ?_; rintro e w9 ⟨rfl, hb9⟩; have hL9 := bthen hHeld hb9; have hE9 := hE8.later hb9; obtain ⟨y0, y1, y2, y3⟩ := hE9.two; have hP9 := below_cell (below_cell hL9 hle8 0 (.int .i64 xa)) hle8 1 (.int .i64 xb); have hQ9 := (hE9.set 0 (.int .i64 xa)).set 1 (.int .i64 xb))
            refine hK.out _ _ (by first | exact hP9 | exact hL9 | exact hL8 | exact hP7 | exact hL7 | exact hA1 | exact hL0) (fun hHeld => ?_)
            clear hK K
            try dsimp only
            refine wpAnyH_ready (rs := [13]) (by kernel_rfl) (by simp) ?_
            refine (AllReadyH.cons rfl (fun K hK => ?_) AllReadyH.nil)
            go_simp
            skip
            refine hK.out _ _ (by first | exact hP9 | exact hL9 | exact hL8 | exact hP7 | exact hL7 | exact hA1 | exact hL0) (fun hHeld => ?_)
            clear hK K
            try simp only [List.getElem_toArray, List.getElem_cons_zero, List.getElem_cons_succ, Act.put, List.setIfInBounds_toArray, List.set_cons_zero, List.set_cons_succ]
            refine wpAnyH_done (by kernel_rfl) ?_ _
            refine NoPanic.normal ?_
            go_wp2_with fail
            go_meet
            case rel => first | exact ⟨_, rfl, hle8, hQ9, hP9⟩ | exact ⟨_, rfl, hle8, hQ9, hP7⟩
        · go_simp
          skip
          refine hK.out _ _ (by first | exact hP9 | exact hL9 | exact hL8 | exact hP7 | exact hL7 | exact hA1 | exact hL0) (fun hHeld => ?_)
          clear hK K
          try simp only [List.getElem_toArray, List.getElem_cons_zero, List.getElem_cons_succ, Act.put, List.setIfInBounds_toArray, List.set_cons_zero, List.set_cons_succ]
          refine wpAnyH_ready (rs := [10]) (by kernel_rfl) (by simp) ?_
          refine (AllReadyH.cons rfl (fun K hK => ?_) AllReadyH.nil)
          go_simp
          (refine (HP.out _ _ _).mono ?_; rintro e w8 ⟨rfl, hb8⟩; have hL8 := bthen hHeld hb8; have hE8 := hE1.later hb8; have hle8 : wr.heap.size ≤ wr.heap.size := Nat.le_refl _)
          refine hK.out _ _ (by first | exact hP9 | exact hL9 | exact hL8 | exact hP7 | exact hL7 | exact hA1 | exact hL0) (fun hHeld => ?_)
          clear hK K
          try dsimp only
          refine wpAnyH_ready (rs := [11]) (by kernel_rfl) (by simp) ?_
          refine (AllReadyH.cons rfl (fun K hK => ?_) AllReadyH.nil)
          go_simp
          (refine (HMx.out _).mono ?_; rintro e w9 ⟨rfl, hb9⟩; have hL9 := bthen hHeld hb9; have hE9 := hE8.later hb9; obtain ⟨y0, y1, y2, y3⟩ := hE9.two; have hP9 := below_cell (below_cell hL9 hle8 0 (.int .i64 xa)) hle8 1 (.int .i64 xb); have hQ9 := (hE9.set 0 (.int .i64 xa)).set 1 (.int .i64 xb))
          refine hK.out _ _ (by first | exact hP9 | exact hL9 | exact hL8 | exact hP7 | exact hL7 | exact hA1 | exact hL0) (fun hHeld => ?_)
          clear hK K
          try dsimp only
          refine wpAnyH_ready (rs := [13]) (by kernel_rfl) (by simp) ?_
          refine (AllReadyH.cons rfl (fun K hK => ?_) AllReadyH.nil)
          go_simp
          skip
          refine hK.out _ _ (by first | exact hP9 | exact hL9 | exact hL8 | exact hP7 | exact hL7 | exact hA1 | exact hL0) (fun hHeld => ?_)
          clear hK K
          try simp only [List.getElem_toArray, List.getElem_cons_zero, List.getElem_cons_succ, Act.put, List.setIfInBounds_toArray, List.set_cons_zero, List.set_cons_succ]
          refine wpAnyH_done (by kernel_rfl) ?_ _
          refine NoPanic.normal ?_
          go_wp2_with fail
          go_meet
          case rel => first | exact ⟨_, rfl, hle8, hQ9, hP9⟩ | exact ⟨_, rfl, hle8, hQ9, hP7⟩
      case rest =>
        obtain ⟨E, rfl, hE, HE2, HB⟩ := hcut
        have hEs : g ≠ E := by have := HK.out.b.lt; omega
        have HK4 := hid (HK.out.later HB.out)
        obtain ⟨⟨c1, f1⟩, ⟨c2, f2⟩⟩ := HCe.out _ HK4.out
        obtain ⟨y0, y1, _, _⟩ := HE2.out.two
        have HK5 := hid (HN2.out _ HK4.out)
        clear HK HE2 HB HK4 HN2 HCe HMx HP hE
        go_wp2_with fail
        go_region_o
        go_wp2
        go_roundw
        case rel => exact ⟨k + 1, by go_num, by omega, HK5⟩
        case measure => simp [intOf]; omega
    · obtain rfl : k = m := by omega
      rw [mx_end, mx_end] at HK
      have H1 := hid (mkL_len k fs)
      have H2 := hid (mkL_len k fd)
      clear HSe HDe HP HOs HOd hlt hk hgg
      generalize mkL k fs = FS at *
      generalize mkL k fd = FD at *
      go_wp2_with fail
      refine (reverse_calls g k k k FS FD _ HK.out.b H1.out H2.out (by omega)).mono ?_
      rintro e w5 ⟨rfl, hB5, hg5⟩
      rw [HEnd.out] at hB5
      have HK6 := hid (HK.out.new hB5 hg5)
      clear hB5 hg5 HK
      go_wp2
      go_ret
      exact ⟨g, rfl, HK6.out.uv⟩
end Go.Proofs.YtbakmphopgkpmaaDoor.UnI
