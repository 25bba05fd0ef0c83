/- The walk through FnFrameBounds. Condition: the table holds what its own text lays. -/
import Derived.Test.YtbakmphopgkpmaaDoorFrI
import Derived.Test.YtbakmphopgkpmaaDoorIwI
import Derived.Test.YtbakmphopgkpmaaDoorLgI
import Derived.Test.YtbakmphopgkpmaaDoorLaN
import Derived.Test.YtbakmphopgkpmaaDoorBndF
import Derived.Test.YtbakmphopgkpmaaDoorDrwU8
import Derived.Test.YtbakmphopgkpmaaDoorFbM
import Derived.Test.YtbakmphopgkpmaaDoorGa
namespace Go.Proofs.YtbakmphopgkpmaaDoor.FbW
open Go.ChangeShapes Go.WideShapes Go.ChangeAt Go.RowKit Go.Proofs.YtbakmphopgkpmaaDoor.Num Go.Proofs.YtbakmphopgkpmaaDoor.Sli Go.Proofs.YtbakmphopgkpmaaDoor.App Go.Proofs.YtbakmphopgkpmaaDoor.Samp Go.Proofs.YtbakmphopgkpmaaDoor.SampF Go.Proofs.YtbakmphopgkpmaaDoor.Blk Go.Proofs.YtbakmphopgkpmaaDoor.TurM Go.Proofs.YtbakmphopgkpmaaDoor.HalM Go.Proofs.YtbakmphopgkpmaaDoor.LapM Go.Proofs.YtbakmphopgkpmaaDoor.LapN Go.Proofs.YtbakmphopgkpmaaDoor.IntL Go.Proofs.YtbakmphopgkpmaaDoor.IntA Go.Proofs.YtbakmphopgkpmaaDoor.LapS Go.Proofs.YtbakmphopgkpmaaDoor.LapW Go.Proofs.YtbakmphopgkpmaaDoor.TurI Go.Proofs.YtbakmphopgkpmaaDoor.OwsG Go.Proofs.YtbakmphopgkpmaaDoor.BndM Go.Proofs.YtbakmphopgkpmaaDoor.LwB Go.Proofs.YtbakmphopgkpmaaDoor.FbM Go.Proofs.YtbakmphopgkpmaaDoor.LwAt
open Go.Proofs.YtbakmphopgkpmaaDoor.FrI (implFrameBounds_calls)
open Go.Proofs.YtbakmphopgkpmaaDoor.IwI (implIsWithin_calls)
open Go.Proofs.YtbakmphopgkpmaaDoor.LgI (implPlayBlock_calls)
open Go.Proofs.YtbakmphopgkpmaaDoor.LaN (implNewSynth_calls)
open Go.Proofs.YtbakmphopgkpmaaDoor.BndF (specFrameBounds_calls)
open Go.Proofs.YtbakmphopgkpmaaDoor.DrwU8 (drawFrameBounds_calls)

theorem fieldI (c v : Value) (w : World) : (Instr.field 35 (.agg #[c, v]) 0).run Tryd.prog w = .ok c w := by kernel_rfl
theorem fieldS (c n u v : Value) (w : World) : (Instr.field 45 (.agg #[c, n, u, v]) 1).run Tryd.prog w = .ok (.agg #[n, u, v]) w := by kernel_rfl
attribute [local go_sem] fieldI fieldS
attribute [-go_sem] Builtin.append_
theorem ow_far {k : IntKind} {e base g : Nat} {t : TypeId} {w w' : World} {v : Value} {xs : List Int} {cur : Array Value} (h : Ow k e base w v xs) (hB : w.heap[g]? = some (.cells cur t (0, 0))) (hne : t ≠ e) (hg : w.grownBy w' (some g)) : Ow k e base w' v xs := by
  have h' : w.ownsRow base e 1 v xs.length (xs.map (Value.int k)) := h
  rcases h.2 with ⟨rfl, _⟩ | ⟨b, cap, cu, rfl, _, hb, _⟩
  · exact h'.kept hg (Or.inl rfl)
  · refine h'.kept hg (Or.inr ?_)
    intro e1
    have e2 : b = g := by simpa [Value.ownBlock] using e1
    subst e2
    rw [hB] at hb
    cases hb
    exact hne rfl
theorem blk_ne {W : World} {b b' : Nat} {A B : Array Value} {t u : TypeId} (h : Blk W b A t) (k : Blk W b' B u) (hne : t ≠ u) : b ≠ b' := by
  rintro rfl
  have : some (Obj.cells A t (0, 0)) = some (Obj.cells B u (0, 0)) := h.symm.trans k
  simp at this
  exact hne this.2
theorem fr_all {s : Int} {x y z : List Int} (h : frC s x y z = 0) : szF s = 0 ∧ ((x.length : Int) = s ∧ (y.length : Int) = s ∧ (z.length : Int) = s) ∧ gbdC x = 0 ∧ gbdC y = 0 ∧ gbdC z = 0 := by
  unfold frC at h
  split at h
  · rename_i hz
    split at h
    · rename_i hl
      split at h
      · rename_i gx
        split at h
        · rename_i gy
          exact ⟨hz, hl, gx, gy, h⟩
        · rename_i gy
          exact absurd h gy
      · rename_i gx
        exact absurd h gx
    · cases h
  · cases h
/-- One of three. -/
def sel (a b c k : Nat) : Nat := if k = 0 then a else if k = 1 then b else c
theorem bs_ok {s : Int} {x y z : List Int} (h : frC s x y z = 0) {k : Nat} : ((bsK x y z k).length : Int) = s ∧ (∀ i, 0 ≤ (bsK x y z k).getD i 0) ∧ lim 1099511627776 (bsK x y z k) := by
  obtain ⟨_, ⟨l1, l2, l3⟩, g1, g2, g3⟩ := fr_all h
  have key : ∀ l, gbdC l = 0 → (∀ i, 0 ≤ l.getD i 0) ∧ lim 1099511627776 l := by
    intro l hg
    have hw := (FcI.gbd_ok hg).2
    exact ⟨fun i => (hw i).1 rfl, hw.lim.mono (by omega)⟩
  unfold bsK
  split
  · exact ⟨l1, key x g1⟩
  · split
    · exact ⟨l2, key y g2⟩
    · exact ⟨l3, key z g3⟩
/-- The answer and the drawn lists. -/
structure F1 (w : World) (F : Nat) (fc : Int) (v1 v2 v3 u : Value) (x y z zs : List Int) (W : World) : Prop where
  f : Blk W F #[.int .i64 fc, u] 35
  l1 : OwI w.heap.size W v1 x
  l2 : OwI w.heap.size W v2 y
  l3 : OwI w.heap.size W v3 z
  lu : OwI w.heap.size W u zs
  b : Below w.heap.size w W
section
variable {w W W' : World} {F G R : Nat} {fc : Int} {v1 v2 v3 u : Value} {x y z zs : List Int} {cur : Array Value} {tt : TypeId}
theorem F1.later (h : F1 w F fc v1 v2 v3 u x y z zs W) (hb : Below W.heap.size W W') : F1 w F fc v1 v2 v3 u x y z zs W' := ⟨h.f.later hb, h.l1.later hb, h.l2.later hb, h.l3.later hb, h.lu.later hb, bthen h.b hb⟩
theorem F1.far (h : F1 w F fc v1 v2 v3 u x y z zs W) (hB : Blk W R cur tt) (n1 : tt ≠ 35) (n2 : tt ≠ 2) (hR : w.heap.size ≤ R) (hg : W.grownBy W' (some R)) : F1 w F fc v1 v2 v3 u x y z zs W' :=
  ⟨h.f.kept hg (fun e => blk_ne hB h.f n1 (by cases e; rfl)), ow_far h.l1 hB n2 hg, ow_far h.l2 hB n2 hg, ow_far h.l3 hB n2 hg, ow_far h.lu hB n2 hg, h.b.trans (below_of_grown hg h.b.size (fun j e => by cases e; exact hR))⟩
/-- And the list of the lists. -/
structure FX (w : World) (F G : Nat) (fc : Int) (v1 v2 v3 u : Value) (x y z zs : List Int) (W : World) : Prop where
  f : F1 w F fc v1 v2 v3 u x y z zs W
  g : Blk W G #[v1, v2, v3] 30
theorem F1.fx (h : F1 w F fc v1 v2 v3 u x y z zs W) : FX w F W.heap.size fc v1 v2 v3 u x y z zs (W.alloc (.cells #[v1, v2, v3] 30)) := ⟨h.later (bmore (Below.refl _ _) _), Blk.new _ _ _⟩
theorem FX.later (h : FX w F G fc v1 v2 v3 u x y z zs W) (hb : Below W.heap.size W W') : FX w F G fc v1 v2 v3 u x y z zs W' := ⟨h.f.later hb, h.g.later hb⟩
theorem FX.far (h : FX w F G fc v1 v2 v3 u x y z zs W) (hB : Blk W R cur tt) (n1 : tt ≠ 35) (n2 : tt ≠ 2) (n3 : tt ≠ 30) (hR : w.heap.size ≤ R) (hg : W.grownBy W' (some R)) : FX w F G fc v1 v2 v3 u x y z zs W' :=
  ⟨h.f.far hB n1 n2 hR hg, h.g.kept hg (fun e => blk_ne hB h.g n3 (by cases e; rfl))⟩
theorem FX.at {g1 n1 c1 g2 n2 c2 g3 n3 c3 : Nat} (h : FX w F G fc (.slice (some ⟨g1, 0, none⟩) n1 c1) (.slice (some ⟨g2, 0, none⟩) n2 c2) (.slice (some ⟨g3, 0, none⟩) n3 c3) u x y z zs W) {k : Nat} (hk : k < 3) :
    W.cell? ⟨G, k, none⟩ = some (.slice (some ⟨sel g1 g2 g3 k, 0, none⟩) (sel n1 n2 n3 k) (sel c1 c2 c3 k)) ∧ Sl .i64 W (.slice (some ⟨sel g1 g2 g3 k, 0, none⟩) (sel n1 n2 n3 k) (sel c1 c2 c3 k)) (bsK x y z k) := by
  rcases k with _ | _ | _ | k
  · exact ⟨h.g.cell 0, h.f.l1.sl⟩
  · exact ⟨h.g.cell 1, h.f.l2.sl⟩
  · exact ⟨h.g.cell 2, h.f.l3.sl⟩
  · omega
end
/-- A synth in its box. -/
structure SB (w : World) (n : Int) (Y : Nat) (vh vt : Value) (hd tl : List Int) (W : World) : Prop where
  y : Blk W Y #[.int .i64 n, vh, vt] 43
  h : OwI w.heap.size W vh hd
  t : OwI w.heap.size W vt tl
  lt : w.heap.size ≤ Y
section
variable {w W W' : World} {n : Int} {Y R : Nat} {vh vt vh' vt' : Value} {hd tl hd' tl' : List Int} {cur : Array Value} {tt : TypeId}
theorem SB.later (h : SB w n Y vh vt hd tl W) (hb : Below W.heap.size W W') : SB w n Y vh vt hd tl W' := ⟨h.y.later hb, h.h.later hb, h.t.later hb, h.lt⟩
theorem SB.to (h : SB w n Y vh vt hd tl W) (e1 : hd' = hd) (e2 : tl' = tl) : SB w n Y vh vt hd' tl' W := by subst e1 e2; exact h
theorem SB.far (h : SB w n Y vh vt hd tl W) (hB : Blk W R cur tt) (hne : R ≠ Y) (n2 : tt ≠ 2) (hg : W.grownBy W' (some R)) : SB w n Y vh vt hd tl W' :=
  ⟨h.y.kept hg (fun e => hne (by cases e; rfl)), ow_far h.h hB n2 hg, ow_far h.t hB n2 hg, h.lt⟩
theorem SB.set (h : SB w n Y vh vt hd tl W) (q1 : OwI w.heap.size W vh' hd') (q2 : OwI w.heap.size W vt' tl') : SB w n Y vh' vt' hd' tl' (((W.setCell ⟨Y, 0, none⟩ (.int .i64 n)).setCell ⟨Y, 1, none⟩ vh').setCell ⟨Y, 2, none⟩ vt') :=
  ⟨((h.y.set 0 _).set 1 _).set 2 _, ow_far q1 h.y (by decide) (grown_set3 _ _ _ _ _), ow_far q2 h.y (by decide) (grown_set3 _ _ _ _ _), h.lt⟩
end
/-- An answer of PlayBlock in its box. -/
structure PB (w : World) (O : Nat) (c s : Int) (va vb vf : Value) (la lb fr : List Int) (W : World) : Prop where
  o : Blk W O #[.int .i64 c, .int .i64 s, va, vb, vf] 48
  a : OwI w.heap.size W va la
  b : OwI w.heap.size W vb lb
  f : OwI w.heap.size W vf fr
  lt : w.heap.size ≤ O
section
variable {w W W' : World} {O R : Nat} {c s c' s' : Int} {va vb vf va' vb' vf' : Value} {la lb fr la' lb' fr' : List Int} {cur : Array Value} {tt : TypeId}
theorem PB.later (h : PB w O c s va vb vf la lb fr W) (hb : Below W.heap.size W W') : PB w O c s va vb vf la lb fr W' := ⟨h.o.later hb, h.a.later hb, h.b.later hb, h.f.later hb, h.lt⟩
theorem PB.to (h : PB w O c s va vb vf la lb fr W) (e : fr' = fr) : PB w O c s va vb vf la lb fr' W := by subst e; exact h
theorem PB.far (h : PB w O c s va vb vf la lb fr W) (hB : Blk W R cur tt) (hne : R ≠ O) (n2 : tt ≠ 2) (hg : W.grownBy W' (some R)) : PB w O c s va vb vf la lb fr W' :=
  ⟨h.o.kept hg (fun e => hne (by cases e; rfl)), ow_far h.a hB n2 hg, ow_far h.b hB n2 hg, ow_far h.f hB n2 hg, h.lt⟩
theorem PB.set (h : PB w O c s va vb vf la lb fr W) (q1 : OwI w.heap.size W va' la') (q2 : OwI w.heap.size W vb' lb') (q3 : OwI w.heap.size W vf' fr') :
    PB w O c' s' va' vb' vf' la' lb' fr' (((((W.setCell ⟨O, 0, none⟩ (.int .i64 c')).setCell ⟨O, 1, none⟩ (.int .i64 s')).setCell ⟨O, 2, none⟩ va').setCell ⟨O, 3, none⟩ vb').setCell ⟨O, 4, none⟩ vf') :=
  ⟨((((h.o.set 0 _).set 1 _).set 2 _).set 3 _).set 4 _, ow_far q1 h.o (by decide) (grown_set5 _ _ _ _ _ _ _), ow_far q2 h.o (by decide) (grown_set5 _ _ _ _ _ _ _), ow_far q3 h.o (by decide) (grown_set5 _ _ _ _ _ _ _), h.lt⟩
end
set_option maxRecDepth 100000 in
set_option maxHeartbeats 8000000 in
theorem fnFrameBounds_calls (a : Option Addr) (cap : Nat) (bs : List Int) (w : World) (hT : Tab w) (hsl : Sl .u8 w (.slice a bs.length cap) bs) (hbd : ∀ x ∈ bs, 0 ≤ x ∧ x ≤ 255) :
    Calls Tryd.prog 5 #[.slice a bs.length cap] w fun e w' => e = .returned (.bool true) ∧ Below w.heap.size w w' := by
  by_cases hbig : 1048576 < bs.length
  · have hb' : (1048576 : Int) < bs.length := by omega
    clear hsl hbd hT
    go_enter Tryd.func5, Tryd.ntmps5
    go_wp2
    go_ret
    exact ⟨rfl, Below.refl _ _⟩
  · have hb' : (bs.length : Int) ≤ 1048576 := by omega
    have H1 := hid (drawFrameBounds_calls a cap bs w hsl hbd (by omega))
    have HAt := hid (fun W (hb : Below w.heap.size w W) (i : Int) h0 h1 => lwAt_calls a cap bs W (hsl.later hb) hbd (by omega) i 4001 h0 h1 (by omega))
    have HBe := hid (fun W (hb : Below w.heap.size w W) vl vb L B (f : Nat) (q1 : Sl .i64 W vl L) (q2 : Sl .i64 W vb B) hB hm hf => lwBent_calls vl vb L B a cap bs f W q1 q2 (hsl.later hb) hbd (by omega) hB hm hf)
    have HTw := hid (fun W (hb : Below w.heap.size w W) => hT.later hb)
    clear hsl hbd hT
    go_enter Tryd.func5, Tryd.ntmps5
    go_wp2_with (first | (go_at_call 9; go_in) | fail)
    refine H1.out.mono ?_
    rintro e w1 ⟨r, g1, c1, n1, g2, c2, n2, g3, c3, n3, x, y, z, rfl, o1, o2, o3, hn, hn20, hb1⟩
    have Hn := hid hn
    have HO1 := hid o1
    have HO2 := hid o2
    have HO3 := hid o3
    have HB1 := hid hb1
    have Hm := hid (show x.length ≤ 20 ∧ y.length ≤ 20 ∧ z.length ≤ 20 by omega)
    clear hn hn20 o1 o2 o3 hb1 H1
    have HFr := hid (fun W (hb : Below w.heap.size w W) (q1 : Sl .i64 W (.slice (some ⟨g1, 0, none⟩) n1 c1) x) (q2 : Sl .i64 W (.slice (some ⟨g2, 0, none⟩) n2 c2) y) (q3 : Sl .i64 W (.slice (some ⟨g3, 0, none⟩) n3 c3) z) => implFrameBounds_calls r _ _ _ x y z W q1 q2 q3 (by have := Hm.out; omega) (by have := Hm.out; omega) (by have := Hm.out; omega) (HTw.out W hb))
    have HSp := hid (fun W (q1 : Sl .i64 W (.slice (some ⟨g1, 0, none⟩) n1 c1) x) (q2 : Sl .i64 W (.slice (some ⟨g2, 0, none⟩) n2 c2) y) (q3 : Sl .i64 W (.slice (some ⟨g3, 0, none⟩) n3 c3) z) => specFrameBounds_calls r _ _ _ x y z W q1 q2 q3 (by have := Hm.out; omega) (by have := Hm.out; omega) (by have := Hm.out; omega))
    go_wp2_with fail
    refine (HFr.out _ HB1.out HO1.out.sl HO2.out.sl HO3.out.sl).mono ?_
    rintro e w2 ⟨u, rfl, ou, hb2⟩
    obtain ⟨au, cu, rfl, _⟩ := id ou.sl
    have HK : Hid (F1 w w2.heap.size (frC r x y z) (.slice (some ⟨g1, 0, none⟩) n1 c1) (.slice (some ⟨g2, 0, none⟩) n2 c2) (.slice (some ⟨g3, 0, none⟩) n3 c3) (.slice au (frL r x y z).length cu) x y z (frL r x y z) (w2.alloc (.cells #[.int .i64 (frC r x y z), .slice au (frL r x y z).length cu] 35))) := by
      have ha := bmore (Below.refl w2.heap.size w2) (.cells #[.int .i64 (frC r x y z), .slice au (frL r x y z).length cu] 35)
      exact ⟨Blk.new _ _ _, (HO1.out.later hb2).later ha, (HO2.out.later hb2).later ha, (HO3.out.later hb2).later ha, (ou.mono HB1.out.size).later ha, bthen (bthen HB1.out hb2) ha⟩
    clear ou hb2 HO1 HO2 HO3 HB1 HFr
    have hKd := HK.out.later (Below.refl _ _).drew
    go_wp2_with fail
    generalize w2.alloc (.cells #[.int .i64 (frC r x y z), .slice au (frL r x y z).length cu] 35) = w4 at *
    generalize w2.heap.size = F at *
    generalize hfc : frC r x y z = fc at *
    generalize hzs : frL r x y z = zs at *
    generalize hlu : zs.length = lu at *
    have E := hid (And.intro hfc (And.intro hzs hlu))
    clear hfc hzs hlu
    refine wp_region_noPanic ?_
    refine wp_region_held_drew (S := fun W => F1 w F fc (.slice (some ⟨g1, 0, none⟩) n1 c1) (.slice (some ⟨g2, 0, none⟩) n2 c2) (.slice (some ⟨g3, 0, none⟩) n3 c3) (.slice au lu cu) x y z zs W) (by kernel_rfl) ?_ (fun hHeld => ?_)
    · first | exact hK1 | exact hKd
    (refine wpAnyH_take (i := 0) (v := ?_) rfl (by kernel_rfl) (by kernel_rfl) (by kernel_rfl) (fun _ _ _ h => h) (Or.inl ⟨by rfl, ?_⟩) hHeld ?_; rotate_left; (intro w hSw; (obtain ⟨m0, _⟩ := hSw.f.two; clear hSw); (go_simp <;> with_reducible rfl)); simp only [List.getElem_toArray, List.getElem_cons_zero, Act.put, List.setIfInBounds_toArray, List.set_cons_zero, List.set_cons_succ])
    (refine wpAnyH_take (i := 1) (v := ?_) rfl (by kernel_rfl) (by kernel_rfl) (by kernel_rfl) (fun _ _ _ h => h) (Or.inl ⟨by rfl, ?_⟩) hHeld ?_; rotate_left; (intro w hSw; (obtain ⟨m0, _⟩ := hSw.f.two; clear hSw); (go_simp <;> with_reducible rfl)); simp only [List.getElem_toArray, List.getElem_cons_zero, List.getElem_cons_succ, Act.put, List.setIfInBounds_toArray, List.set_cons_zero, List.set_cons_succ])
    (refine wpAnyH_take (i := 2) (v := ?_) rfl (by kernel_rfl) (by kernel_rfl) (by kernel_rfl) (fun _ _ _ h => h) (Or.inl ⟨by rfl, ?_⟩) hHeld ?_; rotate_left; (intro w hSw; (obtain ⟨m0, _⟩ := hSw.f.two; clear hSw); (go_simp <;> with_reducible rfl)); simp only [List.getElem_toArray, List.getElem_cons_zero, List.getElem_cons_succ, Act.put, List.setIfInBounds_toArray, List.set_cons_zero, List.set_cons_succ])
    (refine wpAnyH_take (i := 3) (v := ?_) rfl (by kernel_rfl) (by kernel_rfl) (by kernel_rfl) (fun _ _ _ h => h) (Or.inl ⟨by rfl, ?_⟩) hHeld ?_; rotate_left; (intro w hSw; (obtain ⟨m0, _⟩ := hSw.f.two; clear hSw); (go_simp <;> with_reducible rfl)); simp only [List.getElem_toArray, List.getElem_cons_zero, List.getElem_cons_succ, Act.put, List.setIfInBounds_toArray, List.set_cons_zero, List.set_cons_succ])
    (refine wpAnyH_take (i := 4) (v := ?_) rfl (by kernel_rfl) (by kernel_rfl) (by kernel_rfl) (fun _ _ _ h => h) (Or.inl ⟨by rfl, ?_⟩) hHeld ?_; rotate_left; (intro w hSw; (obtain ⟨m0, _⟩ := hSw.f.two; clear hSw); (go_simp <;> with_reducible rfl)); simp only [List.getElem_toArray, List.getElem_cons_zero, List.getElem_cons_succ, Act.put, List.setIfInBounds_toArray, List.set_cons_zero, List.set_cons_succ])
    (refine wpAnyH_take (i := 5) (v := ?_) rfl (by kernel_rfl) (by kernel_rfl) (by kernel_rfl) (fun _ _ _ h => h) (Or.inl ⟨by rfl, ?_⟩) hHeld ?_; rotate_left; (intro w hSw; (obtain ⟨m0, _⟩ := hSw.f.two; clear hSw); (go_simp <;> with_reducible rfl)); simp only [List.getElem_toArray, List.getElem_cons_zero, List.getElem_cons_succ, Act.put, List.setIfInBounds_toArray, List.set_cons_zero, List.set_cons_succ])
    (refine wpAnyH_ready (rs := [6]) (by kernel_rfl) (by simp) ?_; refine AllReadyH.cons rfl (fun K hK => ?_) AllReadyH.nil; go_simp; (refine (HSp.out _ hHeld.l1.sl hHeld.l2.sl hHeld.l3.sl).mono ?_; rintro e w9 ⟨u9, rfl, _, hb9⟩; have hK1 := hHeld.later hb9); refine hK.out _ _ ?_ (fun hHeld => ?_); (first | exact hK1 | exact hKd); clear hK K; try dsimp only)
    (refine wpAnyH_take (i := 7) (v := ?_) rfl (by kernel_rfl) (by kernel_rfl) (by kernel_rfl) (fun _ _ _ h => h) (Or.inl ⟨by rfl, ?_⟩) hHeld ?_; rotate_left; (intro w hSw; (obtain ⟨m0, _⟩ := hSw.f.two; clear hSw); (go_simp <;> with_reducible rfl)); simp only [List.getElem_toArray, List.getElem_cons_zero, List.getElem_cons_succ, Act.put, List.setIfInBounds_toArray, List.set_cons_zero, List.set_cons_succ])
    (refine wpAnyH_take (i := 8) (v := ?_) rfl (by kernel_rfl) (by kernel_rfl) (by kernel_rfl) (fun _ _ _ h => h) (Or.inl ⟨by rfl, ?_⟩) hHeld ?_; rotate_left; (intro w hSw; (obtain ⟨m0, _⟩ := hSw.f.two; clear hSw); (go_simp <;> with_reducible rfl)); simp only [List.getElem_toArray, List.getElem_cons_zero, List.getElem_cons_succ, Act.put, List.setIfInBounds_toArray, List.set_cons_zero, List.set_cons_succ])
    refine wpAnyH_done (by kernel_rfl) ?_ _
    refine NoPanic.normal ?_
    have HK9 := hid hHeld
    clear hHeld hK1 hb9 HK hKd HSp
    obtain ⟨m0, m1, _, _⟩ := HK9.out.f.two
    by_cases hf0 : fc = 0
    rotate_left
    · have hcb : (fc != 0) = true := by simpa using hf0
      clear hf0 E
      go_wp2
      go_ret
      exact ⟨rfl, HK9.out.b⟩
    subst hf0
    have hz := (fr_all E.out.1).1
    obtain ⟨n, rfl⟩ : ∃ n : Nat, r = (n : Int) := ⟨r.toNat, (sz_nat hz).2.1.symm⟩
    have Hz := hid hz
    have hn16 : 4 ≤ n ∧ n ≤ 16 := by obtain ⟨_, e1, e2, e3, e4, _⟩ := sz_nat hz; omega
    have HNy := hid (fun W => implNewSynth_calls (n : Int) W)
    rw [hz, show nlS (n : Int) = n from if_pos hz, show nlL (n : Int) = List.replicate (hN (n : Int)) 0 from if_pos hz] at HNy
    have HX0 := hid HK9.out.fx
    clear hz HK9
    go_wp2_with fail
    refine (HNy.out _).mono ?_
    rintro e w3 ⟨u3, t3, rfl, ht3, hb3⟩
    obtain ⟨a3, d3, rfl, -⟩ := id ht3.s.sl
    obtain ⟨a4, d4, rfl, -⟩ := id ht3.d.sl
    generalize hzr : List.replicate (hN (n : Int)) (0 : Int) = Z0 at *
    have HZr := hid hzr
    clear hzr m0 m1
    have ha3 := bmore (Below.refl w3.heap.size w3) (.cells #[.int .i64 (n : Int), .slice a3 Z0.length d3, .slice a4 Z0.length d4] 43)
    have hzx := HX0.out.f.b.size
    have HX3 := hid ((HX0.out.later hb3).later ha3)
    have HY3 : Hid (SB w (n : Int) w3.heap.size (.slice a3 Z0.length d3) (.slice a4 Z0.length d4) Z0 Z0 (w3.alloc (.cells #[.int .i64 (n : Int), .slice a3 Z0.length d3, .slice a4 Z0.length d4] 43))) :=
      ⟨Blk.new _ _ _, (ht3.s.mono hzx).later ha3, (ht3.d.mono hzx).later ha3, Nat.le_trans hzx hb3.size⟩
    clear ht3 hb3 ha3 hzx HX0
    go_wp2_with fail
    refine (HNy.out _).mono ?_
    rintro e w5 ⟨u5, t5, rfl, ht5, hb5⟩
    obtain ⟨a5, d5, rfl, -⟩ := id ht5.s.sl
    obtain ⟨a6, d6, rfl, -⟩ := id ht5.d.sl
    obtain ⟨q1, q2, q3, q4, q5⟩ := boxes3 (w := w5) (A := #[.int .i64 (n : Int), .slice a5 Z0.length d5, .slice a6 Z0.length d6]) (B := #[.int .i64 0, .int .i64 0, .slice none 0 0, .slice none 0 0, .slice none 0 0]) (C := #[.int .i64 0, .int .i64 0, .slice none 0 0, .slice none 0 0, .slice none 0 0]) (t := 43) (u := 48) (s := 48) (Below.refl _ _)
    have hzx := HX3.out.f.b.size
    have hz5 := hb5.size
    have hzy := HY3.out.y.lt
    have HX6 := hid ((HX3.out.later hb5).later q4)
    have HY6 := hid ((HY3.out.later hb5).later q4)
    have HZ6 := hid (SB.mk (w := w) q1 ((ht5.s.mono hzx).later q4) ((ht5.d.mono hzx).later q4) (show w.heap.size ≤ w5.heap.size by omega))
    have HP6 := hid (PB.mk (w := w) q2 (ow_nil w.heap.size _) (ow_nil w.heap.size _) (ow_nil w.heap.size _) (show w.heap.size ≤ w5.heap.size + 1 by omega))
    have HQ6 := hid (PB.mk (w := w) q3 (ow_nil w.heap.size _) (ow_nil w.heap.size _) (ow_nil w.heap.size _) (show w.heap.size ≤ w5.heap.size + 1 + 1 by omega))
    have hYZ : w3.heap.size ≠ w5.heap.size := by omega
    have hOQ : w5.heap.size + 1 ≠ w5.heap.size + 1 + 1 := by omega
    clear ht5 hb5 q1 q2 q3 q4 q5 hzx hz5 hzy HX3 HY3 HNy
    go_wp2
    generalize w9.heap.size = G at *
    generalize w5.heap.size + 1 + 1 = Q at *
    generalize w5.heap.size + 1 = O at *
    generalize w5.heap.size = Z at *
    generalize w3.heap.size = Y at *
    go_loopw [13] (fun i wr => ∃ (k : Nat) (c t : Nat → List Int) (yh yt zh zt oa ob of' ta tb tf : Value) (c0 s0 c9 s9 : Int) (la lb ma mb : List Int), i = .int .i64 (k : Int) ∧ k ≤ 3 ∧ Hid (FX w F G 0 (.slice (some ⟨g1, 0, none⟩) n1 c1) (.slice (some ⟨g2, 0, none⟩) n2 c2) (.slice (some ⟨g3, 0, none⟩) n3 c3) (.slice au lu cu) x y z zs wr) ∧ Hid (SB w (n : Int) Y yh yt (hdK (n : Int) c k) (tlK (n : Int) c k) wr) ∧ Hid (SB w (n : Int) Z zh zt (hdK (n : Int) t k) (tlK (n : Int) t k) wr) ∧ Hid (PB w O c0 s0 oa ob of' la lb (frK (n : Int) c k) wr) ∧ Hid (PB w Q c9 s9 ta tb tf ma mb (frK (n : Int) t k) wr) ∧ Hid (∀ j, j < k → cOk (n : Int) (c j) ∧ cOk (n : Int) (t j) ∧ nrL (bsK x y z j) (c j) (t j))) (fun i _ => 3 - (intOf i).toNat)
    case atStart =>
      have hh : hdK (n : Int) (fun _ => []) 0 = Z0 := HZr.out
      have ht : tlK (n : Int) (fun _ => []) 0 = Z0 := HZr.out
      have HYs := hid (HY6.out.to hh ht)
      have HZs := hid (HZ6.out.to hh ht)
      exact ⟨0, fun _ => [], fun _ => [], _, _, _, _, _, _, _, _, _, _, 0, 0, 0, 0, [], [], [], [], rfl, Nat.zero_le _, HX6, HYs, HZs, HP6, HQ6, fun j hj => absurd hj (Nat.not_lt_zero _)⟩
    case round =>
      clear HX6 HY6 HZ6 HP6 HQ6 HZr
      obtain ⟨k, c, t, yh, yt, zh, zt, oa, ob, of', ta, tb, tf, c0, s0, c9, s9, la, lb, ma, mb, rfl, hk, HX, HY, HZ, HP, HQ, HD⟩ := hrel
      have hokc := hid (fun j (hj : j < k) => (HD.out j hj).1)
      have hokt := hid (fun j (hj : j < k) => (HD.out j hj).2.1)
      have hsyc := hid (syK Hz.out k hokc.out)
      have hsyt := hid (syK Hz.out k hokt.out)
      by_cases hlt : k < 3
      · have hkI : (k : Int) < 3 := by omega
        have HBw := hid HX.out.f.b
        go_wp2
        generalize wr = w0 at *
        go_loopw [14, 15] (fun v i wq => ∃ (j gg cp : Nat) (ys : List Int), v = .slice (some ⟨gg, 0, none⟩) j cp ∧ i = .int .i64 (j : Int) ∧ j ≤ n ∧ Hid (ys.length = j) ∧ Hid (OwI w0.heap.size wq (.slice (some ⟨gg, 0, none⟩) j cp) ys) ∧ Hid (lim 2000 ys) ∧ Hid (Below w0.heap.size w0 wq)) (fun _ i _ => n - (intOf i).toNat)
        case atStart => exact ⟨0, _, _, [], rfl, rfl, Nat.zero_le _, rfl, ow_new _ _ _ w0 (Nat.le_refl _), fun i => by show _ ≤ (0 : Int) ∧ (0 : Int) ≤ _; omega, bmore (Below.refl _ _) _⟩
        case round =>
          obtain ⟨j, gg, cp, ys, rfl, rfl, hj, Hl, HO, HLm, HBq⟩ := hrel
          by_cases hjn : j < n
          · have hjI : (j : Int) < (n : Int) := by omega
            have hnI : (n : Int) ≤ 16 := by omega
            have HA := hid (fun W hb => HAt.out W hb ((j : Int) + (k : Int) * 5) (by omega) (by omega))
            clear HX HY HZ HP HQ HD hokc hokt hsyc hsyt
            go_wp2_with fail
            refine (HA.out _ (bthen HBw.out HBq.out)).mono ?_
            rintro e w7 ⟨q, rfl, q0, q1, hb7⟩
            have hq : q ≤ 4000 := by omega
            have HO1 := hid ((HO.out.later hb7).later (bmore (Below.refl _ _) (.cells #[.int .i64 (q - 2000)] 2)))
            have HB7 := hid (bmore (bthen HBq.out hb7) (.cells #[.int .i64 (q - 2000)] 2))
            have hz7 := (bthen HBq.out hb7).size
            clear hb7 HO HBq HA q1
            go_wp2_with (at_builtin; refine wpList_append_ints _ rfl _ _ rfl w0.heap.size _ ys rfl HO1.out _ [q - 2000] rfl (sl_lit _ _ _ _ _ _ rfl rfl) (by simp) ?c1 ?c2 ?_)
            case c1 => rw [Hl.out]; simp only [List.length_singleton]; omega
            case c2 => simp; omega
            intro g5 cap5 n5 w8 hn5 ho5 hg5 hat5
            have Hn5 : Hid (n5 = j + 1) := by show _ = _; have := Hl.out; first | omega | (simp only [List.length_append, List.length_singleton] at hn5; omega)
            have Hl5 : Hid ((ys ++ [q - 2000]).length = j + 1) := by show _ = _; have := Hl.out; simp only [List.length_append, List.length_singleton]; omega
            have HL5 : Hid (lim 2000 (ys ++ [q - 2000])) := lim_app HLm.out (fun i => by
              rcases i with _ | i
              · show _ ≤ q - 2000 ∧ q - 2000 ≤ _; omega
              · show _ ≤ (0 : Int) ∧ (0 : Int) ≤ _; omega)
            have HB8 := hid (HB7.out.trans (below_of_grown hg5 (by simp; omega) (fun i e => (HO1.out.block i e).1)))
            have HO8 := hid ho5
            rw [Hn5.out] at HO8 ⊢
            clear hn5 ho5 hg5 hat5 HO1 HB7 Hn5 HLm Hl
            go_wp2
            go_roundw
            case rel => exact ⟨j + 1, g5, cap5, ys ++ [q - 2000], rfl, by go_num, by omega, Hl5, HO8, HL5, HB8⟩
            case measure => simp [intOf]; omega
          · have hje : j = n := by omega
            subst hje
            have hys : (ys.length : Int) = (j : Int) := by have := Hl.out; omega
            have hcys := small_ok Hz.out hys HLm.out
            have hc1 : plC (j : Int) (hdK (j : Int) c k) (tlK (j : Int) c k) ys = 0 := by rw [plC_of hsyc.out hys]; exact hcys.2
            obtain ⟨_, sh1, sh2, _, _⟩ := sy_ok hsyc.out
            obtain ⟨_, sh3, sh4, _, _⟩ := sy_ok hsyt.out
            have hN8 : hN (j : Int) ≤ 8 := (sz_nat Hz.out).2.2.2.2.1
            have HPl : Hid (∀ W v, Below w.heap.size w W → Sl .i64 W yh (hdK (j : Int) c k) → Sl .i64 W yt (tlK (j : Int) c k) → Sl .i64 W v ys → Calls Tryd.prog 33 #[.agg #[.int .i64 (j : Int), yh, yt], v] W fun e w' => ∃ u t q, e = .returned (.agg #[.int .i64 0, .int .i64 (j : Int), u, t, q]) ∧ OWS W.heap.size w' [(u, plH (j : Int) (tlK (j : Int) c k) ys), (t, (plB (j : Int) ys).drop (hN (j : Int))), (q, hdK (j : Int) c k ++ plT (j : Int) (tlK (j : Int) c k) ys)] ∧ Below W.heap.size W w') := by
              intro W v hb q1 q2 q3
              have h := implPlayBlock_calls (j : Int) yh yt v _ _ ys W q1 q2 q3 (by omega) (by omega) (by omega) (HTw.out W hb)
              rwa [hc1, show plS (j : Int) (hdK (j : Int) c k) (tlK (j : Int) c k) ys = j from if_pos hc1, show plU (j : Int) (hdK (j : Int) c k) (tlK (j : Int) c k) ys = _ from if_pos hc1, show plV (j : Int) (hdK (j : Int) c k) (tlK (j : Int) c k) ys = _ from if_pos hc1, show plW (j : Int) (hdK (j : Int) c k) (tlK (j : Int) c k) ys = _ from if_pos hc1] at h
            have HPz : Hid (∀ W v ts, (ts.length : Int) = (j : Int) → Below w.heap.size w W → Sl .i64 W zh (hdK (j : Int) t k) → Sl .i64 W zt (tlK (j : Int) t k) → Sl .i64 W v ts → Calls Tryd.prog 33 #[.agg #[.int .i64 (j : Int), zh, zt], v] W fun e w' => ∃ u t' q, e = .returned (.agg #[.int .i64 (gbC ts), .int .i64 (plS (j : Int) (hdK (j : Int) t k) (tlK (j : Int) t k) ts), u, t', q]) ∧ OWS W.heap.size w' [(u, plU (j : Int) (hdK (j : Int) t k) (tlK (j : Int) t k) ts), (t', plV (j : Int) (hdK (j : Int) t k) (tlK (j : Int) t k) ts), (q, plW (j : Int) (hdK (j : Int) t k) (tlK (j : Int) t k) ts)] ∧ Below W.heap.size W w') := by
              intro W v ts hts hb q1 q2 q3
              have h := implPlayBlock_calls (j : Int) zh zt v _ _ ts W q1 q2 q3 (by omega) (by omega) (by omega) (HTw.out W hb)
              rwa [plC_of hsyt.out hts] at h
            have HPc : Hid (∀ ts : List Int, (ts.length : Int) = (j : Int) → gbC ts = 0 → plS (j : Int) (hdK (j : Int) t k) (tlK (j : Int) t k) ts = j ∧ plU (j : Int) (hdK (j : Int) t k) (tlK (j : Int) t k) ts = plH (j : Int) (tlK (j : Int) t k) ts ∧ plV (j : Int) (hdK (j : Int) t k) (tlK (j : Int) t k) ts = (plB (j : Int) ts).drop (hN (j : Int)) ∧ plW (j : Int) (hdK (j : Int) t k) (tlK (j : Int) t k) ts = hdK (j : Int) t k ++ plT (j : Int) (tlK (j : Int) t k) ts) := by
              intro ts hts hg
              have hc : plC (j : Int) (hdK (j : Int) t k) (tlK (j : Int) t k) ts = 0 := by rw [plC_of hsyt.out hts]; exact hg
              exact ⟨if_pos hc, if_pos hc, if_pos hc, if_pos hc⟩
            obtain ⟨bl1, bl2, bl3⟩ := bs_ok E.out.1 (k := k)
            have Hbl := hid bl1
            have Hb0 := hid bl2
            have Hb3 := hid bl3
            have Hcys := hid hcys
            have HX1 := hid (HX.out.later HBq.out)
            have HY1 := hid (HY.out.later HBq.out)
            have HZ1 := hid (HZ.out.later HBq.out)
            have HP1 := hid (HP.out.later HBq.out)
            have HQ1 := hid (HQ.out.later HBq.out)
            have HO1 := hid (HO.out.mono HBw.out.size)
            clear bl1 bl2 bl3 hcys hc1 sh1 sh2 sh3 sh4 hN8 HX HY HZ HP HQ HO HBq hokc hokt hsyc hsyt HBw HAt
            obtain ⟨ah, ch, rfl, -⟩ := id HY1.out.h.sl
            obtain ⟨at', ct, rfl, -⟩ := id HY1.out.t.sl
            obtain ⟨bh, dh, rfl, -⟩ := id HZ1.out.h.sl
            obtain ⟨bt, dt, rfl, -⟩ := id HZ1.out.t.sl
            generalize (hdK (j : Int) c k).length = lh at *
            generalize (tlK (j : Int) c k).length = lt at *
            generalize (hdK (j : Int) t k).length = lh2 at *
            generalize (tlK (j : Int) t k).length = lt2 at *
            obtain ⟨y0, y1, y2, _⟩ := HY1.out.y.three
            go_wp2_with fail
            refine (HPl.out _ _ HX1.out.f.b HY1.out.h.sl HY1.out.t.sl HO1.out.sl).mono ?_
            rintro e w9 ⟨x4, x5, x6, rfl, ho9, hb9⟩
            have hz9 := HX1.out.f.b.size
            have HR4 := hid (ho9.h1.mono hz9)
            have HR5 := hid (ho9.h2.mono hz9)
            have HR6 := hid (ho9.h3.mono hz9)
            obtain ⟨b4, e4, rfl, -⟩ := id ho9.h1.sl
            obtain ⟨b5, e5, rfl, -⟩ := id ho9.h2.sl
            obtain ⟨b6, e6, rfl, -⟩ := id ho9.h3.sl
            generalize hPU : plH (j : Int) (tlK (j : Int) c k) ys = PU at *
            generalize hPV : (plB (j : Int) ys).drop (hN (j : Int)) = PV at *
            generalize hPW : hdK (j : Int) c k ++ plT (j : Int) (tlK (j : Int) c k) ys = PW at *
            generalize PU.length = lu4 at *
            generalize PV.length = lu5 at *
            generalize PW.length = lu6 at *
            have HN1 := hid (And.intro hPU (And.intro hPV hPW))
            clear hPU hPV hPW
            have HX2 := hid (HX1.out.later hb9)
            have HY2 := hid (HY1.out.later hb9)
            have HZ2 := hid (HZ1.out.later hb9)
            have HP2 := hid (HP1.out.later hb9)
            have HQ2 := hid (HQ1.out.later hb9)
            have HO2 := hid (HO1.out.later hb9)
            have hgO := grown_set5 w9 O (.int .i64 0) (.int .i64 (j : Int)) (.slice b4 lu4 e4) (.slice b5 lu5 e5) (.slice b6 lu6 e6)
            have hOY : O ≠ Y := blk_ne HP2.out.o HY2.out.y (by decide)
            have hOZ : O ≠ Z := blk_ne HP2.out.o HZ2.out.y (by decide)
            have HX3 := hid (HX2.out.far HP2.out.o (by decide) (by decide) (by decide) HP2.out.lt hgO)
            have HY3 := hid (HY2.out.far HP2.out.o hOY (by decide) hgO)
            have HZ3 := hid (HZ2.out.far HP2.out.o hOZ (by decide) hgO)
            have HQ3 := hid (HQ2.out.far HP2.out.o hOQ (by decide) hgO)
            have HO3 := hid (ow_far HO2.out HP2.out.o (by decide) hgO)
            have HP3 := hid (HP2.out.set (c' := 0) (s' := (j : Int)) HR4.out HR5.out HR6.out)
            obtain ⟨o0, o1, o2, o3, o4, f0, f1, f2, f3, f4⟩ := HP2.out.o.five
            clear ho9 hb9 hz9 HX1 HY1 HZ1 HP1 HQ1 HO1 HX2 HY2 HZ2 HP2 HQ2 HO2 HR4 HR5 HR6 hgO HPl y0 y1 y2
            go_upto_region 23 with fail
            generalize ((((w9.setCell ⟨O, 0, none⟩ (.int .i64 0)).setCell ⟨O, 1, none⟩ (.int .i64 (j : Int))).setCell ⟨O, 2, none⟩ (.slice b4 lu4 e4)).setCell ⟨O, 3, none⟩ (.slice b5 lu5 e5)).setCell ⟨O, 4, none⟩ (.slice b6 lu6 e6) = w10 at *
            have hd10 : Below w10.heap.size w10 w10.drew := (Below.refl _ w10).drew
            obtain ⟨hat1, -⟩ := HX3.out.at hlt
            obtain ⟨z0, z1, z2, _⟩ := HZ3.out.y.three
            have hGl := HX3.out.g.lt
            have hZl := HZ3.out.y.lt
            have hCs : ∀ W, Below w10.heap.size w10 W → W.cell? ⟨Z, 0, none⟩ = some (.int .i64 (j : Int)) ∧ W.cell? ⟨Z, 1, none⟩ = some (.slice bh lh2 dh) ∧ W.cell? ⟨Z, 2, none⟩ = some (.slice bt lt2 dt) ∧ W.cell? ⟨G, k, none⟩ = some (.slice (some ⟨sel g1 g2 g3 k, 0, none⟩) (sel n1 n2 n3 k) (sel c1 c2 c3 k)) :=
              fun W hb => ⟨(hb.cell (p := ⟨Z, 0, none⟩) hZl).trans z0, (hb.cell (p := ⟨Z, 1, none⟩) hZl).trans z1, (hb.cell (p := ⟨Z, 2, none⟩) hZl).trans z2, (hb.cell (p := ⟨G, k, none⟩) hGl).trans hat1⟩
            have hS0 := hCs _ hd10
            have HBX := hid HX3.out.f.b
            clear o0 o1 o2 o3 o4 f0 f1 f2 f3 f4 z0 z1 z2 hat1 hGl hZl
            refine wp_region_noPanic ?_
            refine wp_region_held_drew (S := fun W => W.cell? ⟨Z, 0, none⟩ = some (.int .i64 (j : Int)) ∧ W.cell? ⟨Z, 1, none⟩ = some (.slice bh lh2 dh) ∧ W.cell? ⟨Z, 2, none⟩ = some (.slice bt lt2 dt) ∧ W.cell? ⟨G, k, none⟩ = some (.slice (some ⟨sel g1 g2 g3 k, 0, none⟩) (sel n1 n2 n3 k) (sel c1 c2 c3 k))) (by kernel_rfl) (by first | exact hS13 | exact hS12 | exact hS11 | exact hS0) (fun hHeld => ?_)
            (refine wpAnyH_take (i := 0) (v := ?_) rfl (by kernel_rfl) (by kernel_rfl) (by kernel_rfl) (fun _ _ _ h => h) (Or.inl ⟨by rfl, ?_⟩) hHeld ?_; rotate_left; (intro w hSw; (obtain ⟨s1, s2, s3, s4⟩ := hSw); (go_simp <;> with_reducible rfl)); simp only [List.getElem_toArray, List.getElem_cons_zero, Act.put, List.setIfInBounds_toArray, List.set_cons_zero, List.set_cons_succ])
            (refine wpAnyH_take (i := 1) (v := ?_) rfl (by kernel_rfl) (by kernel_rfl) (by kernel_rfl) (fun _ _ _ h => h) (Or.inl ⟨by rfl, ?_⟩) hHeld ?_; rotate_left; (intro w hSw; (obtain ⟨s1, s2, s3, s4⟩ := hSw); (go_simp <;> with_reducible rfl)); simp only [List.getElem_toArray, List.getElem_cons_zero, List.getElem_cons_succ, Act.put, List.setIfInBounds_toArray, List.set_cons_zero, List.set_cons_succ])
            (refine wpAnyH_take (i := 2) (v := ?_) rfl (by kernel_rfl) (by kernel_rfl) (by kernel_rfl) (fun _ _ _ h => h) (Or.inl ⟨by rfl, ?_⟩) hHeld ?_; rotate_left; (intro w hSw; (obtain ⟨s1, s2, s3, s4⟩ := hSw); (go_simp <;> with_reducible rfl)); simp only [List.getElem_toArray, List.getElem_cons_zero, List.getElem_cons_succ, Act.put, List.setIfInBounds_toArray, List.set_cons_zero, List.set_cons_succ])
            (refine wpAnyH_take (i := 3) (v := ?_) rfl (by kernel_rfl) (by kernel_rfl) (by kernel_rfl) (fun _ _ _ h => h) (Or.inl ⟨by rfl, ?_⟩) hHeld ?_; rotate_left; (intro w hSw; (obtain ⟨s1, s2, s3, s4⟩ := hSw); (go_simp <;> with_reducible rfl)); simp only [List.getElem_toArray, List.getElem_cons_zero, List.getElem_cons_succ, Act.put, List.setIfInBounds_toArray, List.set_cons_zero, List.set_cons_succ])
            (refine wpAnyH_take (i := 4) (v := ?_) rfl (by kernel_rfl) (by kernel_rfl) (by kernel_rfl) (fun _ _ _ h => h) (Or.inl ⟨by rfl, ?_⟩) hHeld ?_; rotate_left; (intro w hSw; (obtain ⟨s1, s2, s3, s4⟩ := hSw); (go_simp <;> with_reducible rfl)); simp only [List.getElem_toArray, List.getElem_cons_zero, List.getElem_cons_succ, Act.put, List.setIfInBounds_toArray, List.set_cons_zero, List.set_cons_succ])
            (refine wpAnyH_take (i := 5) (v := ?_) rfl (by kernel_rfl) (by kernel_rfl) (by kernel_rfl) (fun _ _ _ h => h) (Or.inl ⟨by rfl, ?_⟩) hHeld ?_; rotate_left; (intro w hSw; (obtain ⟨s1, s2, s3, s4⟩ := hSw); (go_simp <;> with_reducible rfl)); simp only [List.getElem_toArray, List.getElem_cons_zero, List.getElem_cons_succ, Act.put, List.setIfInBounds_toArray, List.set_cons_zero, List.set_cons_succ])
            (refine wpAnyH_take (i := 6) (v := ?_) rfl (by kernel_rfl) (by kernel_rfl) (by kernel_rfl) (fun _ _ _ h => h) (Or.inl ⟨by rfl, ?_⟩) hHeld ?_; rotate_left; (intro w hSw; (obtain ⟨s1, s2, s3, s4⟩ := hSw); (go_simp <;> with_reducible rfl)); simp only [List.getElem_toArray, List.getElem_cons_zero, List.getElem_cons_succ, Act.put, List.setIfInBounds_toArray, List.set_cons_zero, List.set_cons_succ])
            (refine wpAnyH_take (i := 7) (v := ?_) rfl (by kernel_rfl) (by kernel_rfl) (by kernel_rfl) (fun _ _ _ h => h) (Or.inl ⟨by rfl, ?_⟩) hHeld ?_; rotate_left; (intro w hSw; (obtain ⟨s1, s2, s3, s4⟩ := hSw); (go_simp <;> with_reducible rfl)); simp only [List.getElem_toArray, List.getElem_cons_zero, List.getElem_cons_succ, Act.put, List.setIfInBounds_toArray, List.set_cons_zero, List.set_cons_succ])
            refine wpAnyH_ready (rs := [8]) (by kernel_rfl) (by simp) ?_
            refine (AllReadyH.cons rfl (fun K hK => ?_) AllReadyH.nil)
            go_simp
            (refine (HBe.out _ (bthen HBX.out hd10) _ _ ys (bsK x y z k) k (HO3.out.sl.later hd10) ((HX3.out.later hd10).at hlt).2 Hb3.out (by have := Hl.out; omega) (by omega)).mono ?_; rintro e w11 ⟨gl, cl, ts, rfl, hot, hlt2, hbt, hb11⟩; have hb11' := bthen hd10 hb11; have hS11 := hCs _ hb11'; have Hts := hid (show ts.length = ys.length by have h1 := Hbl.out; have h2 := Hl.out; omega); have Hbt := hid hbt; clear hlt2 hbt)
            refine hK.out _ _ (by first | exact hS13 | exact hS12 | exact hS11 | exact hS0) (fun hHeld => ?_)
            clear hK K
            try dsimp only
            refine wpAnyH_ready (rs := [9]) (by kernel_rfl) (by simp) ?_
            refine (AllReadyH.cons rfl (fun K hK => ?_) AllReadyH.nil)
            go_simp
            (refine (HPz.out _ _ ts (by have h1 := Hl.out; have h2 := Hts.out; omega) (bthen HBX.out hb11') (HZ3.out.h.sl.later hb11') (HZ3.out.t.sl.later hb11') hot.sl).mono ?_; rintro e w12 ⟨x7, x8, x9, rfl, ho12, hb12⟩; have hb12' := bthen hb11' hb12; have hS12 := hCs _ hb12'; have hz12 : w.heap.size ≤ w11.heap.size := Nat.le_trans HBX.out.size hb11'.size; have HR7 := hid (ho12.h1.mono hz12); have HR8 := hid (ho12.h2.mono hz12); have HR9 := hid (ho12.h3.mono hz12); obtain ⟨b7, e7, rfl, -⟩ := id ho12.h1.sl; obtain ⟨b8, e8, rfl, -⟩ := id ho12.h2.sl; obtain ⟨b9, e9, rfl, -⟩ := id ho12.h3.sl; obtain ⟨o0, o1, o2, o3, o4, f0, f1, f2, f3, f4⟩ := (HQ3.out.later hb12').o.five; generalize hgc : gbC ts = gc at *; generalize hgs : plS (j : Int) (hdK (j : Int) t k) (tlK (j : Int) t k) ts = gs at *; generalize hgu : plU (j : Int) (hdK (j : Int) t k) (tlK (j : Int) t k) ts = QU at *; generalize hgv : plV (j : Int) (hdK (j : Int) t k) (tlK (j : Int) t k) ts = QV at *; generalize hgw : plW (j : Int) (hdK (j : Int) t k) (tlK (j : Int) t k) ts = QW at *; have HG := hid (And.intro hgc (And.intro hgs (And.intro hgu (And.intro hgv hgw)))); clear hgc hgs hgu hgv hgw ho12; generalize QU.length = lv7 at *; generalize QV.length = lv8 at *; generalize QW.length = lv9 at *)
            refine hK.out _ _ (by first | exact hS13 | exact hS12 | exact hS11 | exact hS0) (fun hHeld => ?_)
            clear hK K
            try dsimp only
            refine wpAnyH_ready (rs := [10]) (by kernel_rfl) (by simp) ?_
            refine (AllReadyH.cons rfl (fun K hK => ?_) AllReadyH.nil)
            go_simp
            (have hQZ : Q ≠ Z := blk_ne HQ3.out.o HZ3.out.y (by decide); have hZB := (((((HZ3.out.later hb12').y.other hQZ 0 (.int .i64 gc)).other hQZ 1 (.int .i64 gs)).other hQZ 2 (.slice b7 lv7 e7)).other hQZ 3 (.slice b8 lv8 e8)).other hQZ 4 (.slice b9 lv9 e9); obtain ⟨za, zb, zc, _⟩ := hZB.three; have hS13 := And.intro za (And.intro zb (And.intro zc (((HX3.out.later hb12').far (HQ3.out.later hb12').o (by decide) (by decide) (by decide) HQ3.out.lt (grown_set5 w12 Q (.int .i64 gc) (.int .i64 gs) (.slice b7 lv7 e7) (.slice b8 lv8 e8) (.slice b9 lv9 e9))).at hlt).1)))
            refine hK.out _ _ (by first | exact hS13 | exact hS12 | exact hS11 | exact hS0) (fun hHeld => ?_)
            clear hK K
            try simp only [List.getElem_toArray, List.getElem_cons_zero, List.getElem_cons_succ, Act.put, List.setIfInBounds_toArray, List.set_cons_zero, List.set_cons_succ]
            refine wpAnyH_done (by kernel_rfl) ?_ _
            refine NoPanic.normal ?_
            have hts : (ts.length : Int) = (j : Int) := by have h1 := Hl.out; have h2 := Hts.out; omega
            have hgQ := grown_set5 w12 Q (.int .i64 gc) (.int .i64 gs) (.slice b7 lv7 e7) (.slice b8 lv8 e8) (.slice b9 lv9 e9)
            have hQY : Q ≠ Y := blk_ne HQ3.out.o HY3.out.y (by decide)
            have HQ4 := hid ((HQ3.out.later hb12').set (c' := gc) (s' := gs) HR7.out HR8.out HR9.out)
            have HX4 := hid ((HX3.out.later hb12').far (HQ3.out.later hb12').o (by decide) (by decide) (by decide) HQ3.out.lt hgQ)
            have HY4 := hid ((HY3.out.later hb12').far (HQ3.out.later hb12').o hQY (by decide) hgQ)
            have HZ4 := hid ((HZ3.out.later hb12').far (HQ3.out.later hb12').o hQZ (by decide) hgQ)
            have HP4 := hid ((HP3.out.later hb12').far (HQ3.out.later hb12').o hOQ.symm (by decide) hgQ)
            clear hHeld hS13 hS12 hS11 hS0 hCs hZB za zb zc hgQ HR7 HR8 HR9 o0 o1 o2 o3 o4 f0 f1 f2 f3 f4 hb12 hb12' hb11 hb11' hd10 HX3 HY3 HZ3 HP3 HQ3 HBX hot hz12
            generalize ((((w12.setCell ⟨Q, 0, none⟩ (.int .i64 gc)).setCell ⟨Q, 1, none⟩ (.int .i64 gs)).setCell ⟨Q, 2, none⟩ (.slice b7 lv7 e7)).setCell ⟨Q, 3, none⟩ (.slice b8 lv8 e8)).setCell ⟨Q, 4, none⟩ (.slice b9 lv9 e9) = w13 at *
            obtain ⟨t0, t1, t2, t3, t4, _⟩ := HQ4.out.o.five
            obtain ⟨p0, p1, p2, p3, p4, _⟩ := HP4.out.o.five
            by_cases hg : gc = 0
            · obtain ⟨r1, r2, r3, r4⟩ := HPc.out ts hts (HG.out.1.trans hg)
              obtain rfl : gs = (j : Int) := HG.out.2.1.symm.trans r1
              have hok : cOk (j : Int) ts := ⟨hts, HG.out.1.trans hg⟩
              have hnr : nrL (bsK x y z k) ys ts := bent_nr Hb0.out HLm.out (by have h1 := Hl.out; have h2 := Hbl.out; omega) Hts.out Hbt.out
              have HNr := hid (And.intro Hcys.out (And.intro hok hnr))
              have HUc := hid (upd_new (j : Int) c k ys)
              have HUt := hid (upd_new (j : Int) t k ts)
              have HEc := hid HN1.out
              have HEt : Hid (plH (j : Int) (tlK (j : Int) t k) ts = QU ∧ (plB (j : Int) ts).drop (hN (j : Int)) = QV ∧ hdK (j : Int) t k ++ plT (j : Int) (tlK (j : Int) t k) ts = QW) := ⟨r2.symm.trans HG.out.2.2.1, r3.symm.trans HG.out.2.2.2.1, r4.symm.trans HG.out.2.2.2.2⟩
              subst hg
              clear r1 r2 r3 r4 hok hnr hts HPc HG Hb0 Hb3 Hbl Hcys Hbt Hts HLm Hl HPz HBe HO3 HN1
              have hOY2 : O ≠ Y := blk_ne HP4.out.o HY4.out.y (by decide)
              have hOZ2 : O ≠ Z := blk_ne HP4.out.o HZ4.out.y (by decide)
              obtain ⟨y0, y1, y2, i0, i1, i2⟩ := HY4.out.y.three
              have hgY := grown_set3 w13 Y (.int .i64 (j : Int)) (.slice b4 lu4 e4) (.slice b5 lu5 e5)
              have HY5 := hid (HY4.out.set HP4.out.a HP4.out.b)
              have HX5 := hid (HX4.out.far HY4.out.y (by decide) (by decide) (by decide) HY4.out.lt hgY)
              have HZ5 := hid (HZ4.out.far HY4.out.y hYZ (by decide) hgY)
              have HP5 := hid (HP4.out.far HY4.out.y hOY2.symm (by decide) hgY)
              have HQ5 := hid (HQ4.out.far HY4.out.y hQY.symm (by decide) hgY)
              obtain ⟨z0, z1, z2, v0, v1, v2⟩ := HZ5.out.y.three
              obtain ⟨l0, l1, l2, l3, l4, _⟩ := HQ5.out.o.five
              have hgZ := grown_set3 (((w13.setCell ⟨Y, 0, none⟩ (.int .i64 (j : Int))).setCell ⟨Y, 1, none⟩ (.slice b4 lu4 e4)).setCell ⟨Y, 2, none⟩ (.slice b5 lu5 e5)) Z (.int .i64 (j : Int)) (.slice b7 lv7 e7) (.slice b8 lv8 e8)
              have HZ6 := hid ((HZ5.out.set HQ5.out.a HQ5.out.b).to (HUt.out.1.trans HEt.out.1) (HUt.out.2.1.trans HEt.out.2.1))
              have HX6 := hid (HX5.out.far HZ5.out.y (by decide) (by decide) (by decide) HZ5.out.lt hgZ)
              have HY6 := hid ((HY5.out.far HZ5.out.y hYZ.symm (by decide) hgZ).to (HUc.out.1.trans HEc.out.1) (HUc.out.2.1.trans HEc.out.2.1))
              have HP6 := hid ((HP5.out.far HZ5.out.y hOZ2.symm (by decide) hgZ).to (HUc.out.2.2.trans HEc.out.2.2))
              have HQ6 := hid ((HQ5.out.far HZ5.out.y hQZ.symm (by decide) hgZ).to (HUt.out.2.2.trans HEt.out.2.2))
              have HD6 : Hid (∀ i, i < k + 1 → cOk (j : Int) (upd c k ys i) ∧ cOk (j : Int) (upd t k ts i) ∧ nrL (bsK x y z i) (upd c k ys i) (upd t k ts i)) := by
                intro i hi
                by_cases hik : i = k
                · subst hik; rw [upd_at, upd_at]; exact HNr.out
                · rw [upd_lo (by omega), upd_lo (by omega)]; exact HD.out i (by omega)
              clear HY4 HX4 HZ4 HP4 HQ4 HY5 HX5 HZ5 HP5 HQ5 hgY hgZ HUc HUt HEc HEt HNr HD
              go_wp2
              go_roundw
              case rel => exact ⟨k + 1, upd c k ys, upd t k ts, _, _, _, _, _, _, _, _, _, _, _, _, _, _, _, _, _, _, by go_num, by omega, HX6, HY6, HZ6, HP6, HQ6, HD6⟩
              case measure => simp [intOf]; omega
            · have h3 : gc = 3 := by
                rcases gbC_cases Hz.out hts with h | h
                · exact absurd (HG.out.1.symm.trans h) hg
                · exact HG.out.1.symm.trans h
              subst h3
              have HBz := hid HX4.out.f.b
              clear hts HPc HG Hb0 Hb3 Hbl Hcys Hbt Hts HLm Hl HPz HBe HO3 HN1 HY4 HX4 HZ4 HP4 HQ4 HD
              go_wp2
              go_ret
              exact ⟨rfl, HBz.out⟩
      · have hk3 : k = 3 := by omega
        subst hk3
        obtain ⟨hwi, hln⟩ := frame_law Hz.out E.out.1 (fun j hj => (HD.out j hj).1) (fun j hj => (HD.out j hj).2.1) (fun j hj => (HD.out j hj).2.2)
        rw [E.out.2.1] at hwi
        have hdec := of_decide_eq_true hwi
        have hm1 := hid (show (frK (n : Int) c 3).length ≤ 1048576 ∧ (frK (n : Int) t 3).length ≤ 1048576 ∧ zs.length ≤ 1048576 by have h1 := hdec.1; have h2 := hdec.2.1; omega)
        have HI := hid (fun W q1 q2 q3 => implIsWithin_calls of' tf (.slice au lu cu) (frK (n : Int) c 3) (frK (n : Int) t 3) zs W q1 q2 q3 hm1.out.1 hm1.out.2.1 hm1.out.2.2)
        rw [hwi] at HI
        clear hdec hm1 hwi hokc hokt hsyc hsyt HD HAt HBe HTw HY HZ
        have HX1 := hid HX.out
        generalize frK (n : Int) c 3 = fo at *
        generalize frK (n : Int) t 3 = ft at *
        obtain ⟨ao, co, rfl, -⟩ := id HP.out.f.sl
        obtain ⟨at', ct, rfl, -⟩ := id HQ.out.f.sl
        generalize fo.length = lo at *
        generalize ft.length = lt at *
        have hlo : ((lo : Int) == (n : Int)) = true := by simpa using hln
        clear hln
        obtain ⟨o0, o1, o2, o3, o4, _⟩ := HP.out.o.five
        obtain ⟨t0, t1, t2, t3, t4, _⟩ := HQ.out.o.five
        obtain ⟨f0, f1, _, _⟩ := HX.out.f.f.two
        go_wp2_with fail
        refine (HI.out _ HP.out.f.sl HQ.out.f.sl HX.out.f.lu.sl).mono ?_
        rintro e w9 ⟨rfl, hb9⟩
        have HBz := hid (bthen HX.out.f.b hb9)
        have HP9 := hid (HP.out.later hb9)
        clear hb9 o0 o1 o2 o3 o4 t0 t1 t2 t3 t4 f0 f1 HI HX HX1 HP HQ
        obtain ⟨o0, o1, o2, o3, o4, _⟩ := HP9.out.o.five
        go_wp2
        go_ret
        exact ⟨rfl, HBz.out⟩
end Go.Proofs.YtbakmphopgkpmaaDoor.FbW
