/- What the program feeds and plays: the next lap or synth, and a list. Conditions: the table of turns, a right size, lists of its length, numbers within MaxWide. -/
import Derived.Test.YtbakmphopgkpmaaDoorLaN
import Derived.Test.YtbakmphopgkpmaaDoorLcI
import Derived.Test.YtbakmphopgkpmaaDoorLdI
namespace Go.Proofs.YtbakmphopgkpmaaDoor.LeI
open Go.ChangeShapes Go.WideShapes Go.ChangeAt Go.RowKit Go.Proofs.YtbakmphopgkpmaaDoor.Num Go.Proofs.YtbakmphopgkpmaaDoor.Sli Go.Proofs.YtbakmphopgkpmaaDoor.App Go.Proofs.YtbakmphopgkpmaaDoor.Samp Go.Proofs.YtbakmphopgkpmaaDoor.Blk Go.Proofs.YtbakmphopgkpmaaDoor.TurM Go.Proofs.YtbakmphopgkpmaaDoor.HalM Go.Proofs.YtbakmphopgkpmaaDoor.LapM Go.Proofs.YtbakmphopgkpmaaDoor.LapN Go.Proofs.YtbakmphopgkpmaaDoor.IntL Go.Proofs.YtbakmphopgkpmaaDoor.IntA Go.Proofs.YtbakmphopgkpmaaDoor.LapS Go.Proofs.YtbakmphopgkpmaaDoor.TurI Go.Proofs.YtbakmphopgkpmaaDoor.WayM Go.Proofs.YtbakmphopgkpmaaDoor.WayJ Go.Proofs.YtbakmphopgkpmaaDoor.BkI Go.Proofs.YtbakmphopgkpmaaDoor.HalS Go.Proofs.YtbakmphopgkpmaaDoor.LaI Go.Proofs.YtbakmphopgkpmaaDoor.LaN Go.Proofs.YtbakmphopgkpmaaDoor.LbI Go.Proofs.YtbakmphopgkpmaaDoor.LcI Go.Proofs.YtbakmphopgkpmaaDoor.LdI

/-- Both parts of a list. -/
theorem sl_take {W : World} {b off n c m : Nat} {l : List Int} (h : Sl .i64 W (.slice (some ⟨b, off, none⟩) n c) l) (hm : m ≤ n) (hm1 : 1 ≤ m) : Sl .i64 W (.slice (some ⟨b, off, none⟩) m c) (l.take m) := by
  obtain ⟨a', c', e, hc⟩ := h
  have e1 : l.length = n ∧ a' = some ⟨b, off, none⟩ := by cases e; exact ⟨rfl, rfl⟩
  obtain ⟨hl, rfl⟩ := e1
  have hne : l ≠ [] := by intro e; rw [e] at hl; simp at hl; omega
  obtain ⟨b2, o2, e2, hlt, hcell⟩ := hc hne
  cases e2
  have hlen : (l.take m).length = m := by rw [List.length_take]; omega
  refine ⟨_, c, by rw [hlen], fun _ => ⟨b, off, rfl, hlt, fun i hi => ?_⟩⟩
  rw [hlen] at hi
  rw [hcell i (by omega), take_get, if_pos hi]
theorem sl_drop {W : World} {b off n c c2 m : Nat} {l : List Int} (h : Sl .i64 W (.slice (some ⟨b, off, none⟩) n c) l) (hm : m < n) : Sl .i64 W (.slice (some ⟨b, off + m, none⟩) (n - m) c2) (l.drop m) := by
  obtain ⟨a', c', e, hc⟩ := h
  have e1 : l.length = n ∧ a' = some ⟨b, off, none⟩ := by cases e; exact ⟨rfl, rfl⟩
  obtain ⟨hl, rfl⟩ := e1
  have hne : l ≠ [] := by intro e; rw [e] at hl; simp at hl; omega
  obtain ⟨b2, o2, e2, hlt, hcell⟩ := hc hne
  cases e2
  have hlen : (l.drop m).length = n - m := by rw [List.length_drop]; omega
  refine ⟨_, c2, by rw [hlen], fun _ => ⟨b, off + m, rfl, hlt, fun i hi => ?_⟩⟩
  rw [hlen] at hi
  rw [Nat.add_assoc, hcell (m + i) (by omega), drop_get]
/-- What is kept: both boxes, the first list, both sides of the seam. -/
structure FD (w : World) (A : Array Value) (B : Array Value) (t : TypeId) (vh : Value) (half : List Int) (ga ca gb cb m : Nat) (T F : List Int) (W : World) : Prop where
  bx : BX w A t B t W
  h : Sl .i64 W vh half
  k : OwI (w.heap.size + 1 + 1) W (.slice (some ⟨ga, 0, none⟩) m ca) T
  f : OwI (w.heap.size + 1 + 1) W (.slice (some ⟨gb, 0, none⟩) m cb) F
section
variable {w W W' : World} {A B : Array Value} {t : TypeId} {vh : Value} {half T F : List Int} {ga ca gb cb m : Nat}
theorem FD.later (h : FD w A B t vh half ga ca gb cb m T F W) (hb : Below W.heap.size W W') : FD w A B t vh half ga ca gb cb m T F W' := ⟨h.bx.later hb, h.h.later hb, h.k.later hb, h.f.later hb⟩
theorem FD.drew (h : FD w A B t vh half ga ca gb cb m T F W) : FD w A B t vh half ga ca gb cb m T F W.drew := h.later (Below.refl _ _).drew
theorem FD.alloc (h : FD w A B t vh half ga ca gb cb m T F W) (o : Obj) : FD w A B t vh half ga ca gb cb m T F (W.alloc o) := h.later (bmore (Below.refl _ _) o)
end
/-- Three boxes: what is told, the way, the answer. -/
structure BY (w : World) (A : Array Value) (t : TypeId) (Y : Array Value) (B : Array Value) (u : TypeId) (W : World) : Prop where
  l : Blk W w.heap.size A t
  y : Blk W (w.heap.size + 1) Y 77
  r : Blk W (w.heap.size + 1 + 1) B u
  b : Below w.heap.size w W
section
variable {w W W' : World} {A : Array Value} {t : TypeId} {Y B : Array Value} {u : TypeId}
theorem BY.new (w : World) (A : Array Value) (t : TypeId) (Y B : Array Value) (u : TypeId) : BY w A t Y B u (((w.alloc (.cells A t)).alloc (.cells Y 77)).alloc (.cells B u)) := by
  obtain ⟨h1, h2, h3, h4, _⟩ := boxes3 (w := w) (A := A) (B := Y) (C := B) (t := t) (u := 77) (s := u) (Below.refl _ _)
  exact ⟨h1, h2, h3, h4⟩
theorem BY.later (h : BY w A t Y B u W) (hb : Below W.heap.size W W') : BY w A t Y B u W' := ⟨h.l.later hb, h.y.later hb, h.r.later hb, bthen h.b hb⟩
theorem BY.setR (h : BY w A t Y B u W) (i : Nat) (v : Value) : BY w A t Y (B.setIfInBounds i v) u (W.setCell ⟨w.heap.size + 1 + 1, i, none⟩ v) :=
  ⟨h.l.other (by omega) i v, h.y.other (by omega) i v, h.r.set i v, below_cell h.b (by omega) i v⟩
end
/-- What is kept: the boxes, the first list, both sides of the seam. -/
structure FY (w : World) (A : Array Value) (Y : Array Value) (B : Array Value) (t : TypeId) (vh : Value) (half : List Int) (ga ca gb cb m : Nat) (T F : List Int) (W : World) : Prop where
  bx : BY w A t Y B t W
  h : Sl .i64 W vh half
  k : OwI (w.heap.size + 1 + 1 + 1) W (.slice (some ⟨ga, 0, none⟩) m ca) T
  f : OwI (w.heap.size + 1 + 1 + 1) W (.slice (some ⟨gb, 0, none⟩) m cb) F
section
variable {w W W' : World} {A Y B : Array Value} {t : TypeId} {vh : Value} {half T F : List Int} {ga ca gb cb m : Nat}
theorem FY.later (h : FY w A Y B t vh half ga ca gb cb m T F W) (hb : Below W.heap.size W W') : FY w A Y B t vh half ga ca gb cb m T F W' := ⟨h.bx.later hb, h.h.later hb, h.k.later hb, h.f.later hb⟩
theorem FY.drew (h : FY w A Y B t vh half ga ca gb cb m T F W) : FY w A Y B t vh half ga ca gb cb m T F W.drew := h.later (Below.refl _ _).drew
theorem FY.alloc (h : FY w A Y B t vh half ga ca gb cb m T F W) (o : Obj) : FY w A Y B t vh half ga ca gb cb m T F (W.alloc o) := h.later (bmore (Below.refl _ _) o)
end
set_option maxRecDepth 100000 in
set_option maxHeartbeats 4000000 in
theorem played_calls (kd : Bool) (hkd : has kd) (wv : Value) (s : Int) (vh vr vf : Value) (half rest fr : List Int) (w : World) (hz : szF s = 0) (h1 : Sl .i64 w vh half) (h2 : Sl .i64 w vr rest) (h3 : Sl .i64 w vf fr) (hf : Fits vf) (l1 : half.length = hN s) (l2 : rest.length = hN s) (l3 : fr.length = s.toNat) (b2 : wlim kd 137438953472 rest) (b3 : wlim kd 137438953472 fr) (hT : Tab w) (hwv : WayV kd w wv) :
    Calls Tryd.prog 88 #[.agg #[.int .i64 s, vh, vr], vf, wv] w fun e w' => ∃ gb cb gd cd gk ck : Nat, e = .returned (.tuple #[.agg #[.int .i64 s, .slice (some ⟨gb, 0, none⟩) (hN s : Nat) cb, .slice (some ⟨gd, 0, none⟩) (hN s : Nat) cd], .slice (some ⟨gk, 0, none⟩) s.toNat ck]) ∧ TW w.heap.size (.slice (some ⟨gb, 0, none⟩) (hN s : Nat) cb) (.slice (some ⟨gd, 0, none⟩) (hN s : Nat) cd) (smB (wF kd s.toNat) (hN s) rest (fr.take (hN s))) (fr.drop (hN s)) w' ∧ OwI w.heap.size w' (.slice (some ⟨gk, 0, none⟩) s.toNat ck) (half ++ smA (wF kd s.toNat) (hN s) rest (fr.take (hN s))) ∧ Below w.heap.size w w' ∧ gb ≠ gk ∧ gd ≠ gk := by
  obtain ⟨-, e1, e2, e3, e4, e5⟩ := sz_nat hz
  have hm8 : hN s ≤ 8 ∧ 2 ≤ hN s := ⟨e4, e3⟩
  have lt : (fr.take (hN s)).length = hN s := by rw [List.length_take]; omega
  have ld : (fr.drop (hN s)).length = hN s := by rw [List.length_drop]; omega
  have lT : (smA (wF kd s.toNat) (hN s) rest (fr.take (hN s))).length = hN s := smA_len _ _ _ _
  have nh : half ≠ [] := by intro e; rw [e] at l1; simp at l1; omega
  have nT : smA (wF kd s.toNat) (hN s) rest (fr.take (hN s)) ≠ [] := by intro e; rw [e] at lT; simp at lT; omega
  have nd : fr.drop (hN s) ≠ [] := by intro e; rw [e] at ld; simp at ld; omega
  have HSe := hid (fun W v1 v2 (q1 : Sl .i64 W v1 rest) (q2 : Sl .i64 W v2 (fr.take (hN s))) (ht : Tab W) (hw : WayV kd W wv) => seamBack_calls kd hkd wv s v1 v2 rest (fr.take (hN s)) W hz q1 q2 l2 lt b2 (wlim_take b3 _) ht hw)
  obtain ⟨sg, rfl, hSB⟩ := hwv
  have hmf : ∀ (fn : Fn) (first cap : Array Value) (w : World), (Instr.makeFunc fn first cap).run Tryd.prog w = .ok (.func fn first cap) w := fun _ _ _ _ => rfl
  have HC := hid (fun W v (q : Sl .i64 W v (fr.drop (hN s))) => clone_calls v (fr.drop (hN s)) W q nd (by omega))
  have HX := hid (fun g v1 v2 W (q : Blk W g #[v1, v2] 30) (q1 : Sl .i64 W v1 half) (q2 : Sl .i64 W v2 (smA (wF kd s.toNat) (hN s) rest (fr.take (hN s)))) => concat_calls g v1 v2 half _ W q q1 q2 nh nT (by omega))
  rw [ld] at HC
  rw [l1, lT] at HX
  obtain ⟨a1, c1, rfl, -⟩ := id h1
  obtain ⟨a2, c2, rfl, -⟩ := id h2
  have nf : fr ≠ [] := by intro e; rw [e] at l3; simp at l3; omega
  obtain ⟨a3, c3, rfl, hcc⟩ := id h3
  obtain ⟨bf, of, rfl, -, -⟩ := hcc nf
  have hcap : fr.length ≤ c3 := hf
  rw [l1, l2, l3]
  rw [l1] at h1
  rw [l2] at h2
  rw [l3] at h3 hcap
  have HPa := hid (fun W => parts_calls s bf of s.toNat c3 W hz e2 hcap)
  have Ht1 := hid (fun W (q : Sl .i64 W (.slice (some ⟨bf, of, none⟩) s.toNat c3) fr) => sl_take q (show hN s ≤ s.toNat by omega) (by omega))
  have Ht2 := hid (fun W (q : Sl .i64 W (.slice (some ⟨bf, of, none⟩) s.toNat c3) fr) => sl_drop (c2 := c3 - hN s) q (show hN s < s.toNat by omega))
  rw [show s.toNat - hN s = hN s by omega] at Ht2
  have hnn : hN s + hN s = s.toNat := by omega
  rw [hnn] at HX
  have HK0 := hid (BY.new w #[.int .i64 s, .slice a1 (hN s : Nat) c1, .slice a2 (hN s : Nat) c2] 102 #[.slice (some ⟨sg, 0, none⟩) 3 3, .func (.func (fP kd)) #[] #[]] #[.int .i64 0, .slice none 0 0, .slice none 0 0] 102)
  have hsz0 : (((w.alloc (.cells #[.int .i64 s, .slice a1 (hN s : Nat) c1, .slice a2 (hN s : Nat) c2] 102)).alloc (.cells #[.slice (some ⟨sg, 0, none⟩) 3 3, .func (.func (fP kd)) #[] #[]] 77)).alloc (.cells #[.int .i64 0, .slice none 0 0, .slice none 0 0] 102)).heap.size = w.heap.size + 1 + 1 + 1 := by rw [World.size_alloc, World.size_alloc, World.size_alloc]
  have H1 := hid (h1.later HK0.out.b)
  have H2 := hid (h2.later HK0.out.b)
  have H3 := hid (h3.later HK0.out.b)
  have HT := hid (hT.later HK0.out.b)
  have HW : Hid (WayV kd _ (wayV kd sg)) := ⟨sg, rfl, hSB.later HK0.out.b⟩
  unfold wayV at *
  clear hSB h1 h2 h3 hT hz l1 l2 l3 lt ld lT nh nT nd nf e1 e2 e5 b2 b3 hf hcc hcap hnn
  generalize smA (wF kd s.toNat) (hN s) rest (fr.take (hN s)) = T at *
  generalize smB (wF kd s.toNat) (hN s) rest (fr.take (hN s)) = F at *
  generalize fr.take (hN s) = FT at *
  generalize fr.drop (hN s) = FR at *
  generalize s.toNat = n at *
  generalize hN s = m at *
  obtain ⟨t0, t1, t2, _⟩ := HK0.out.l.three
  go_enter Tryd.func88, Tryd.ntmps88
  go_wp2_with fail
  generalize ((w.alloc (.cells #[.int .i64 s, .slice a1 m c1, .slice a2 m c2] 102)).alloc (.cells #[.slice (some ⟨sg, 0, none⟩) 3 3, .func (.func (fP kd)) #[] #[]] 77)).alloc (.cells #[.int .i64 0, .slice none 0 0, .slice none 0 0] 102) = w0 at *
  refine (HPa.out _).mono ?_
  rintro e w1 ⟨rfl, hb1⟩
  have HK1 := hid (HK0.out.later hb1)
  have H11 := hid (H1.out.later hb1)
  have H21 := hid (H2.out.later hb1)
  have H31 := hid (H3.out.later hb1)
  have HT1 := hid (HT.out.later hb1)
  have HW1 := hid (WayV.later HW.out hb1)
  have hz1 : w.heap.size + 1 + 1 + 1 ≤ w1.heap.size := by have := hb1.size; omega
  clear hb1 HK0 H1 H2 H3 HT HW HPa hsz0 t0 t1 t2
  obtain ⟨t0, t1, t2, _⟩ := HK1.out.l.three
  obtain ⟨y0, y1, _, _⟩ := HK1.out.y.two
  go_wp2_with fail
  refine (HSe.out _ _ _ H21.out (Ht1.out _ H31.out) HT1.out HW1.out).mono ?_
  rintro e w2 ⟨ga, ca, gb, cb, rfl, hk2⟩
  have HF : Hid (FY w #[.int .i64 s, .slice a1 m c1, .slice a2 m c2] #[.slice (some ⟨sg, 0, none⟩) 3 3, .func (.func (fP kd)) #[] #[]] #[.int .i64 0, .slice none 0 0, .slice none 0 0] 102 (.slice a1 m c1) half ga ca gb cb m T F w2) := ⟨HK1.out.later hk2.b, H11.out.later hk2.b, hk2.s.mono hz1, hk2.d.mono hz1⟩
  have H32 := hid (H31.out.later hk2.b)
  clear hk2 HK1 H11 H21 H31 HT1 HW1 HSe t0 t1 t2 hz1 y0 y1
  go_wp2_with fail
  have hS0 : w2.drew.cell? ⟨w.heap.size, 0, none⟩ = some (.int .i64 s) ∧ w2.drew.cell? ⟨w.heap.size, 1, none⟩ = some (.slice a1 m c1) := ⟨HF.out.bx.l.three.1, HF.out.bx.l.three.2.1⟩
  have hF0 := HF.out.drew
  have hR0 : Sl .i64 w2.drew (.slice (some ⟨bf, of + m, none⟩) m (c3 - m)) FR := Ht2.out _ (H32.out.later (Below.refl _ _).drew)
  have hd2 : w2.drew.heap.size = w2.heap.size := rfl
  clear HF H32 Ht1 Ht2
  refine wp_region_noPanic ?_
  refine wp_region_held_drew (S := fun W => W.cell? ⟨w.heap.size, 0, none⟩ = some (.int .i64 s) ∧ W.cell? ⟨w.heap.size, 1, none⟩ = some (.slice a1 m c1)) (by kernel_rfl) (by first | exact hS9 | exact hS7 | exact hS6 | exact hS5 | exact hS0) (fun hHeld => ?_)
  (refine wpAnyH_take (i := 0) (v := ?_) rfl (by kernel_rfl) (by kernel_rfl) (by kernel_rfl) (fun _ _ _ h => h) (Or.inl ⟨by rfl, ?_⟩) hHeld ?_; rotate_left; (intro w hSw; (obtain ⟨s0, s1⟩ := hSw); (go_simp <;> with_reducible rfl)); simp only [List.getElem_toArray, List.getElem_cons_zero, Act.put, List.setIfInBounds_toArray, List.set_cons_zero, List.set_cons_succ])
  (refine wpAnyH_take (i := 1) (v := ?_) rfl (by kernel_rfl) (by kernel_rfl) (by kernel_rfl) (fun _ _ _ h => h) (Or.inl ⟨by rfl, ?_⟩) hHeld ?_; rotate_left; (intro w hSw; (obtain ⟨s0, s1⟩ := hSw); (go_simp <;> with_reducible rfl)); simp only [List.getElem_toArray, List.getElem_cons_zero, List.getElem_cons_succ, Act.put, List.setIfInBounds_toArray, List.set_cons_zero, List.set_cons_succ])
  (refine wpAnyH_take (i := 2) (v := ?_) rfl (by kernel_rfl) (by kernel_rfl) (by kernel_rfl) (fun _ _ _ h => h) (Or.inl ⟨by rfl, ?_⟩) hHeld ?_; rotate_left; (intro w hSw; (obtain ⟨s0, s1⟩ := hSw); (go_simp <;> with_reducible rfl)); simp only [List.getElem_toArray, List.getElem_cons_zero, List.getElem_cons_succ, Act.put, List.setIfInBounds_toArray, List.set_cons_zero, List.set_cons_succ])
  (refine wpAnyH_take (i := 3) (v := ?_) rfl (by kernel_rfl) (by kernel_rfl) (by kernel_rfl) (fun _ _ _ h => h) (Or.inl ⟨by rfl, ?_⟩) hHeld ?_; rotate_left; (intro w hSw; (obtain ⟨s0, s1⟩ := hSw); (go_simp <;> with_reducible rfl)); simp only [List.getElem_toArray, List.getElem_cons_zero, List.getElem_cons_succ, Act.put, List.setIfInBounds_toArray, List.set_cons_zero, List.set_cons_succ])
  (refine wpAnyH_take (i := 6) (v := ?_) rfl (by kernel_rfl) (by kernel_rfl) (by kernel_rfl) (fun _ _ _ h => h) (Or.inl ⟨by rfl, ?_⟩) hHeld ?_; rotate_left; (intro w hSw; (obtain ⟨s0, s1⟩ := hSw); (go_simp <;> with_reducible rfl)); simp only [List.getElem_toArray, List.getElem_cons_zero, List.getElem_cons_succ, Act.put, List.setIfInBounds_toArray, List.set_cons_zero, List.set_cons_succ])
  (refine wpAnyH_take (i := 7) (v := ?_) rfl (by kernel_rfl) (by kernel_rfl) (by kernel_rfl) (fun _ _ _ h => h) (Or.inl ⟨by rfl, ?_⟩) hHeld ?_; rotate_left; (intro w hSw; (obtain ⟨s0, s1⟩ := hSw); (go_simp <;> with_reducible rfl)); simp only [List.getElem_toArray, List.getElem_cons_zero, List.getElem_cons_succ, Act.put, List.setIfInBounds_toArray, List.set_cons_zero, List.set_cons_succ])
  (refine wpAnyH_take (i := 8) (v := ?_) rfl (by kernel_rfl) (by kernel_rfl) (by kernel_rfl) (fun _ _ _ h => h) (Or.inl ⟨by rfl, ?_⟩) hHeld ?_; rotate_left; (intro w hSw; (obtain ⟨s0, s1⟩ := hSw); (go_simp <;> with_reducible rfl)); simp only [List.getElem_toArray, List.getElem_cons_zero, List.getElem_cons_succ, Act.put, List.setIfInBounds_toArray, List.set_cons_zero, List.set_cons_succ])
  refine wpAnyH_ready (rs := [4, 9]) (by kernel_rfl) (by simp) ?_
  refine (AllReadyH.cons rfl (fun K hK => ?_) (AllReadyH.cons rfl (fun K hK => ?_) AllReadyH.nil))
  · go_simp
    (refine (HC.out _ _ hR0).mono ?_; rintro e w5 ⟨gd, cd, rfl, ho5, hb5⟩; have hF5 := hF0.later hb5; have hW5 : TW (w.heap.size + 1 + 1 + 1) (.slice (some ⟨gb, 0, none⟩) m cb) (.slice (some ⟨gd, 0, none⟩) m cd) F FR w5 := ⟨hF5.f, ho5.mono (by have := hF0.bx.r.lt; omega), fun g x1 x2 => by simp [Value.ownBlock] at x1 x2; have h9 := (ho5.block gd rfl).1; have h8 := (hF0.f.block gb rfl).2; omega⟩; have hS5 := And.intro hF5.bx.l.three.1 hF5.bx.l.three.2.1)
    refine hK.out _ _ (by first | exact hS9 | exact hS7 | exact hS6 | exact hS5 | exact hS0) (fun hHeld => ?_)
    clear hK K
    try dsimp only
    (refine wpAnyH_take (i := 5) (v := ?_) rfl (by kernel_rfl) (by kernel_rfl) (by kernel_rfl) (fun _ _ _ h => h) (Or.inl ⟨by rfl, ?_⟩) hHeld ?_; rotate_left; (intro w hSw; (obtain ⟨s0, s1⟩ := hSw); (go_simp <;> with_reducible rfl)); simp only [List.getElem_toArray, List.getElem_cons_zero, List.getElem_cons_succ, Act.put, List.setIfInBounds_toArray, List.set_cons_zero, List.set_cons_succ])
    refine wpAnyH_ready (rs := [9]) (by kernel_rfl) (by simp) ?_
    refine (AllReadyH.cons rfl (fun K hK => ?_) AllReadyH.nil)
    go_simp
    (have hG := Blk.new w5 #[.slice a1 m c1, .slice (some ⟨ga, 0, none⟩) m ca] 30; have hF6 := hF5.alloc (.cells #[.slice a1 m c1, .slice (some ⟨ga, 0, none⟩) m ca] 30); have hW6 := hW5.later (bmore (Below.refl _ _) (.cells #[.slice a1 m c1, .slice (some ⟨ga, 0, none⟩) m ca] 30)); have hS6 := And.intro hF6.bx.l.three.1 hF6.bx.l.three.2.1)
    refine hK.out _ _ (by first | exact hS9 | exact hS7 | exact hS6 | exact hS5 | exact hS0) (fun hHeld => ?_)
    clear hK K
    try simp only [List.getElem_toArray, List.getElem_cons_zero, List.getElem_cons_succ, Act.put, List.setIfInBounds_toArray, List.set_cons_zero, List.set_cons_succ]
    refine wpAnyH_ready (rs := [10]) (by kernel_rfl) (by simp) ?_
    refine (AllReadyH.cons rfl (fun K hK => ?_) AllReadyH.nil)
    go_simp
    (have hsz6 := hF6.bx.r.lt; refine (HX.out _ _ _ _ hG hF6.h hF6.k.sl).mono ?_; rintro e w7 ⟨gk, ck, rfl, ho7, hb7⟩; have hF7 := hF6.later hb7; have hW7 := hW6.later hb7; have hS7 := And.intro hF7.bx.l.three.1 hF7.bx.l.three.2.1; obtain ⟨r0, r1, r2, q0, q1, q2⟩ := hF7.bx.r.three)
    refine hK.out _ _ (by first | exact hS9 | exact hS7 | exact hS6 | exact hS5 | exact hS0) (fun hHeld => ?_)
    clear hK K
    try dsimp only
    refine wpAnyH_ready (rs := [11]) (by kernel_rfl) (by simp) ?_
    refine (AllReadyH.cons rfl (fun K hK => ?_) AllReadyH.nil)
    go_simp
    (have hF9 := ((hF7.bx.setR 0 (.int .i64 s)).setR 1 (.slice (some ⟨gb, 0, none⟩) m cb)).setR 2 (.slice (some ⟨gd, 0, none⟩) m cd); have hS9 := And.intro hF9.l.three.1 hF9.l.three.2.1)
    refine hK.out _ _ (by first | exact hS9 | exact hS7 | exact hS6 | exact hS5 | exact hS0) (fun hHeld => ?_)
    clear hK K
    try simp only [List.getElem_toArray, List.getElem_cons_zero, List.getElem_cons_succ, Act.put, List.setIfInBounds_toArray, List.set_cons_zero, List.set_cons_succ]
    (refine wpAnyH_take (i := 12) (v := ?_) rfl (by kernel_rfl) (by kernel_rfl) (by kernel_rfl) (fun _ _ _ h => h) (Or.inl ⟨by rfl, ?_⟩) hHeld ?_; rotate_left; (intro w hSw; (obtain ⟨s0, s1⟩ := hSw); (go_simp <;> with_reducible rfl)); simp only [List.getElem_toArray, List.getElem_cons_zero, List.getElem_cons_succ, Act.put, List.setIfInBounds_toArray, List.set_cons_zero, List.set_cons_succ])
    refine wpAnyH_done (by kernel_rfl) ?_ _
    refine NoPanic.normal ?_
    have hgs := grown_set3 w7 (w.heap.size + 1 + 1) (.int .i64 s) (.slice (some ⟨gb, 0, none⟩) m cb) (.slice (some ⟨gd, 0, none⟩) m cd)
    have hW9 := (hW7.over (R := w.heap.size + 1 + 1) (by omega) hgs).mono (show w.heap.size ≤ w.heap.size + 1 + 1 + 1 by omega)
    have hK9 := ((ho7.mono (show w.heap.size + 1 + 1 + 1 ≤ _ by omega)).over (R := w.heap.size + 1 + 1) (by omega) hgs).mono (show w.heap.size ≤ w.heap.size + 1 + 1 + 1 by omega)
    have hB9 := hF9.b
    have hn9 : gb ≠ gk ∧ gd ≠ gk := by (have h9 := (ho7.block gk rfl).1; have h8 := (hW6.s.block gb rfl).2; have h7 := (hW6.d.block gd rfl).2; omega)
    go_wp2
    exact bodyPost_ret (v := .tuple #[.agg #[.int .i64 s, .slice (some ⟨gb, 0, none⟩) m cb, .slice (some ⟨gd, 0, none⟩) m cd], .slice (some ⟨gk, 0, none⟩) n ck]) (by simp [results, Tryd.results88, go_sem, r0, r1, r2]) rfl ⟨_, _, _, _, _, _, rfl, hW9, hK9, hB9, hn9⟩
  · go_simp
    (have hG5 := Blk.new w2.drew #[.slice a1 m c1, .slice (some ⟨ga, 0, none⟩) m ca] 30; have hF5 := hF0.alloc (.cells #[.slice a1 m c1, .slice (some ⟨ga, 0, none⟩) m ca] 30); have hR5 := hR0.later (bmore (Below.refl _ _) (.cells #[.slice a1 m c1, .slice (some ⟨ga, 0, none⟩) m ca] 30)); have hS5 := And.intro hF5.bx.l.three.1 hF5.bx.l.three.2.1)
    refine hK.out _ _ (by first | exact hS9 | exact hS7 | exact hS6 | exact hS5 | exact hS0) (fun hHeld => ?_)
    clear hK K
    try simp only [List.getElem_toArray, List.getElem_cons_zero, List.getElem_cons_succ, Act.put, List.setIfInBounds_toArray, List.set_cons_zero, List.set_cons_succ]
    refine wpAnyH_ready (rs := [4]) (by kernel_rfl) (by simp) ?_
    refine (AllReadyH.cons rfl (fun K hK => ?_) AllReadyH.nil)
    go_simp
    (refine (HC.out _ _ hR5).mono ?_; rintro e w6 ⟨gd, cd, rfl, ho6, hb6⟩; have hG := hG5.later hb6; have hF6 := hF5.later hb6; have hW6 : TW (w.heap.size + 1 + 1 + 1) (.slice (some ⟨gb, 0, none⟩) m cb) (.slice (some ⟨gd, 0, none⟩) m cd) F FR w6 := ⟨hF6.f, ho6.mono (by have := hF5.bx.r.lt; omega), fun g x1 x2 => by simp [Value.ownBlock] at x1 x2; have h9 := (ho6.block gd rfl).1; have h8 := (hF5.f.block gb rfl).2; omega⟩; have hS6 := And.intro hF6.bx.l.three.1 hF6.bx.l.three.2.1)
    refine hK.out _ _ (by first | exact hS9 | exact hS7 | exact hS6 | exact hS5 | exact hS0) (fun hHeld => ?_)
    clear hK K
    try dsimp only
    (refine wpAnyH_take (i := 5) (v := ?_) rfl (by kernel_rfl) (by kernel_rfl) (by kernel_rfl) (fun _ _ _ h => h) (Or.inl ⟨by rfl, ?_⟩) hHeld ?_; rotate_left; (intro w hSw; (obtain ⟨s0, s1⟩ := hSw); (go_simp <;> with_reducible rfl)); simp only [List.getElem_toArray, List.getElem_cons_zero, List.getElem_cons_succ, Act.put, List.setIfInBounds_toArray, List.set_cons_zero, List.set_cons_succ])
    refine wpAnyH_ready (rs := [10]) (by kernel_rfl) (by simp) ?_
    refine (AllReadyH.cons rfl (fun K hK => ?_) AllReadyH.nil)
    go_simp
    (have hsz6 := hF6.bx.r.lt; refine (HX.out _ _ _ _ hG hF6.h hF6.k.sl).mono ?_; rintro e w7 ⟨gk, ck, rfl, ho7, hb7⟩; have hF7 := hF6.later hb7; have hW7 := hW6.later hb7; have hS7 := And.intro hF7.bx.l.three.1 hF7.bx.l.three.2.1; obtain ⟨r0, r1, r2, q0, q1, q2⟩ := hF7.bx.r.three)
    refine hK.out _ _ (by first | exact hS9 | exact hS7 | exact hS6 | exact hS5 | exact hS0) (fun hHeld => ?_)
    clear hK K
    try dsimp only
    refine wpAnyH_ready (rs := [11]) (by kernel_rfl) (by simp) ?_
    refine (AllReadyH.cons rfl (fun K hK => ?_) AllReadyH.nil)
    go_simp
    (have hF9 := ((hF7.bx.setR 0 (.int .i64 s)).setR 1 (.slice (some ⟨gb, 0, none⟩) m cb)).setR 2 (.slice (some ⟨gd, 0, none⟩) m cd); have hS9 := And.intro hF9.l.three.1 hF9.l.three.2.1)
    refine hK.out _ _ (by first | exact hS9 | exact hS7 | exact hS6 | exact hS5 | exact hS0) (fun hHeld => ?_)
    clear hK K
    try simp only [List.getElem_toArray, List.getElem_cons_zero, List.getElem_cons_succ, Act.put, List.setIfInBounds_toArray, List.set_cons_zero, List.set_cons_succ]
    (refine wpAnyH_take (i := 12) (v := ?_) rfl (by kernel_rfl) (by kernel_rfl) (by kernel_rfl) (fun _ _ _ h => h) (Or.inl ⟨by rfl, ?_⟩) hHeld ?_; rotate_left; (intro w hSw; (obtain ⟨s0, s1⟩ := hSw); (go_simp <;> with_reducible rfl)); simp only [List.getElem_toArray, List.getElem_cons_zero, List.getElem_cons_succ, Act.put, List.setIfInBounds_toArray, List.set_cons_zero, List.set_cons_succ])
    refine wpAnyH_done (by kernel_rfl) ?_ _
    refine NoPanic.normal ?_
    have hgs := grown_set3 w7 (w.heap.size + 1 + 1) (.int .i64 s) (.slice (some ⟨gb, 0, none⟩) m cb) (.slice (some ⟨gd, 0, none⟩) m cd)
    have hW9 := (hW7.over (R := w.heap.size + 1 + 1) (by omega) hgs).mono (show w.heap.size ≤ w.heap.size + 1 + 1 + 1 by omega)
    have hK9 := ((ho7.mono (show w.heap.size + 1 + 1 + 1 ≤ _ by omega)).over (R := w.heap.size + 1 + 1) (by omega) hgs).mono (show w.heap.size ≤ w.heap.size + 1 + 1 + 1 by omega)
    have hB9 := hF9.b
    have hn9 : gb ≠ gk ∧ gd ≠ gk := by (have h9 := (ho7.block gk rfl).1; have h8 := (hW6.s.block gb rfl).2; have h7 := (hW6.d.block gd rfl).2; omega)
    go_wp2
    exact bodyPost_ret (v := .tuple #[.agg #[.int .i64 s, .slice (some ⟨gb, 0, none⟩) m cb, .slice (some ⟨gd, 0, none⟩) m cd], .slice (some ⟨gk, 0, none⟩) n ck]) (by simp [results, Tryd.results88, go_sem, r0, r1, r2]) rfl ⟨_, _, _, _, _, _, rfl, hW9, hK9, hB9, hn9⟩
end Go.Proofs.YtbakmphopgkpmaaDoor.LeI
