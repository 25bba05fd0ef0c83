/- The program's heap of rests: two are exchanged, one is put behind the others, the last one is taken. Condition: at most 1000 rests; places that there are. -/
import Derived.Test.YtbbejjlgfekipaaShaH
import Derived.Deep.AppendLies
namespace Go.Proofs.Ytbbejjlgfekipaa.ShaU
open Go.ChangeShapes Go.WideShapes Go.ChangeAt Go.RowKit Go.Proofs.Ytbbejjlgfekipaa.Num Go.Proofs.Ytbbejjlgfekipaa.Sli Go.Proofs.Ytbbejjlgfekipaa.App Go.Proofs.Ytbbejjlgfekipaa.Blk Go.Proofs.Ytbbejjlgfekipaa.HalM Go.Proofs.Ytbbejjlgfekipaa.ShaG Go.Proofs.Ytbbejjlgfekipaa.ShaH Go.Proofs.Ytbbejjlgfekipaa.IntL Go.Proofs.Ytbbejjlgfekipaa.IntA Go.Proofs.Ytbbejjlgfekipaa.BkI

theorem infoR : (Try.prog.info? 72).map (fun i => (i.zero, i.size, i.bytes)) = some (some (.agg #[.int .i64 0, .int .i64 0]), 2, 16) := by kernel_rfl
theorem HP.drew {base b g cap : Nat} {R : List B2} {W : World} (h : HP base b g cap R W) : HP base b g cap R W.drew := h.later (Below.refl _ _).drew
set_option maxHeartbeats 2000000 in
theorem swap_calls {base b g cap : Nat} {R : List B2} {W : World} (h : HP base b g cap R W) (i j : Nat) (hi : i < R.length) (hj : j < R.length) :
    Calls Try.prog 76 #[.slice (some ⟨g, 0, none⟩) R.length cap, .int .i64 (i : Int), .int .i64 (j : Int)] W fun e w' => e = .returned (.tuple #[]) ∧ HP base b g cap (sw R i j) w' ∧ Below base W w' := by
  obtain ⟨hlt, hbg, _, _, hc⟩ := h.o.at
  obtain ⟨c1, c2⟩ := hc i hi
  obtain ⟨d1, d2⟩ := hc j hj
  have fr : ∀ k, W.frozen? ⟨g, k, none⟩ = false := fun k => World.ownsRow.frozenAt h.o _
  have f1 := fr (i * 2)
  have f2 := fr (i * 2 + 1)
  have f3 := fr (j * 2)
  have f4 := fr (j * 2 + 1)
  have hiI : (i : Int) < (R.length : Int) := by omega
  have hjI : (j : Int) < (R.length : Int) := by omega
  have H0 := HP.sw h i j hi hj
  have H := hid (And.intro (HP.drew H0.1) H0.2.drew)
  clear hc h hbg fr H0
  have mixed := mixed_orders
  by_cases hij : i = j
  · subst hij
    clear d1 d2 f3 f4
    generalize sw R i i = R' at *
    generalize (at2 R i).1 = p at *
    generalize (at2 R i).2 = x at *
    go_enter Try.func76, Try.ntmps76
    go_wp2_with fail
    go_region_o
    go_wp2
    go_end0
    exact ⟨rfl, H.out.1, H.out.2⟩
  · generalize sw R i j = R' at *
    generalize (at2 R i).1 = p at *
    generalize (at2 R i).2 = x at *
    generalize (at2 R j).1 = q at *
    generalize (at2 R j).2 = y at *
    go_enter Try.func76, Try.ntmps76
    go_wp2_with fail
    go_region_o
    go_wp2
    go_end0
    exact ⟨rfl, H.out.1, H.out.2⟩
/-- A rest is appended in a region that draws its order. -/
theorem step_append_rest (w : World) {ops : Array Oper} {o : Oper} {a : Act} {K : Act → World → Prop} {Q : Exit → Act → World → Prop} {E : Prop} (hgd : o.guard = none) (s x : Operand)
    (ho : o.op = .call { callee := .builtin .append, args := #[s, x], argTypes := #[67, 67] })
    (base : Nat) (v : Value) (ls : List B2) (hs : a.eval s = v) (hown : OwR base w v ls) (B c : Nat) (p q : Int) (fr : Nat × Nat) (hx : a.eval x = .slice (some ⟨B, 0, none⟩) 1 c)
    (hB : w.heap[B]? = some (.cells #[.int .i64 p, .int .i64 q] 72 fr)) (hlen : ls.length ≤ 1000) (hbase : base ≤ w.heap.size)
    (h : ∀ g cap n w', n = ls.length + 1 → OwR base w' (.slice (some ⟨g, 0, none⟩) n cap) (ls ++ [(p, q)]) → w.grownBy w' v.ownBlock → (v.ownBlock = some g ∨ g = w.heap.size) → K (a.put o.dst (.slice (some ⟨g, 0, none⟩) n cap)) w') :
    if Region.wanted o (yielded ops a.tmps) = true then Oper.wp Try.prog o a w K Q else E := by
  obtain ⟨i0, hi, hz0, hz1, hz2⟩ := info_parts infoR
  have hown' : w.ownsRow base 72 2 v ls.length (flat ls) := hown
  refine step_append_lies w hgd s x 67 ho base 72 i0 (.agg #[.int .i64 0, .int .i64 0]) 2 16 Try.underlying67 hi hz0 hz1 hz2 rfl (by decide) v ls.length _ hs hown' ⟨B, 0, none⟩ 1 c [.int .i64 p, .int .i64 q] hx (by simp) (World.news_of_block hB) ?_ (by omega) (by rw [show maxLen = 9223372036854775807 by decide]; omega) (by omega) hbase w.heap.size rfl ?_
  · intro u hu
    simp at hu
    rcases hu with rfl | rfl <;> rfl
  · intro g cap w' h1 h2 h3 _
    refine h g cap _ w' rfl ?_ h2 h3
    show World.ownsRow _ _ _ _ _ (ls ++ [(p, q)]).length (flat (ls ++ [(p, q)]))
    rw [flat_append, List.length_append, List.length_singleton]
    exact h1
attribute [-go_sem] Builtin.append_
set_option maxHeartbeats 4000000 in
theorem push_calls {base b g cap : Nat} {R : List B2} {W : World} (h : HP base b g cap R W) (p x : Int) (hl : R.length ≤ 1000) :
    Calls Try.prog 75 #[.pointer (some ⟨b, 0, none⟩), .iface 72 (.agg #[.int .i64 p, .int .i64 x])] W fun e w' => e = .returned (.tuple #[]) ∧ (∃ g' cap', HP base b g' cap' (R ++ [(p, x)]) w') ∧ Below base W w' := by
  have hta : ∀ (t : TypeId) (w : World), (Instr.typeAssert (.iface 72 (.agg #[.int .i64 p, .int .i64 x])) t 72 false).run Try.prog w = .ok (.agg #[.int .i64 p, .int .i64 x]) w := fun _ _ => by kernel_rfl
  obtain ⟨hlt, hbg, _, _, _⟩ := h.o.at
  have hbl := h.x.lt
  have hb := h.hb
  have hne := h.n
  have c0 := h.cell
  have HXd := hid (HP.drew h).x
  have HOd := hid (HP.drew h).o
  have k0 : (W.alloc (.cells #[.int .i64 p, .int .i64 x] 72)).cell? ⟨b, 0, none⟩ = some (.slice (some ⟨g, 0, none⟩) R.length cap) := (h.x.alloc _).cell 0
  have hbW : base ≤ W.heap.size := by omega
  clear h
  go_enter Try.func75, Try.ntmps75
  go_wp2_with fail
  refine wp_region_noPanic ?_
  refine wp_region_held_drew (S := fun _ => True) (by kernel_rfl) trivial (fun hHeld => ?_)
  (refine wpAnyH_take (i := 0) (v := ?_) rfl (by kernel_rfl) (by kernel_rfl) (by kernel_rfl) (fun _ _ _ h => h) (Or.inl ⟨by rfl, ?_⟩) hHeld ?_; rotate_left; (intro w hSw; skip; (go_simp <;> with_reducible rfl)); simp only [List.getElem_toArray, List.getElem_cons_zero, Act.put, List.setIfInBounds_toArray, List.set_cons_zero, List.set_cons_succ])
  (refine wpAnyH_take (i := 1) (v := ?_) rfl (by kernel_rfl) (by kernel_rfl) (by kernel_rfl) (fun _ _ _ h => h) (Or.inl ⟨by rfl, ?_⟩) hHeld ?_; rotate_left; (intro w hSw; skip; (go_simp <;> with_reducible rfl)); simp only [List.getElem_toArray, List.getElem_cons_zero, List.getElem_cons_succ, Act.put, List.setIfInBounds_toArray, List.set_cons_zero, List.set_cons_succ])
  (refine wpAnyH_take (i := 2) (v := ?_) rfl (by kernel_rfl) (by kernel_rfl) (by kernel_rfl) (fun _ _ _ h => h) (Or.inl ⟨by rfl, ?_⟩) hHeld ?_; rotate_left; (intro w hSw; skip; (go_simp <;> with_reducible rfl)); simp only [List.getElem_toArray, List.getElem_cons_zero, List.getElem_cons_succ, Act.put, List.setIfInBounds_toArray, List.set_cons_zero, List.set_cons_succ])
  (refine wpAnyH_take (i := 4) (v := ?_) rfl (by kernel_rfl) (by kernel_rfl) (by kernel_rfl) (fun _ _ _ h => h) (Or.inl ⟨by rfl, ?_⟩) hHeld ?_; rotate_left; (intro w hSw; skip; (go_simp <;> with_reducible rfl)); simp only [List.getElem_toArray, List.getElem_cons_zero, List.getElem_cons_succ, Act.put, List.setIfInBounds_toArray, List.set_cons_zero, List.set_cons_succ])
  (refine wpAnyH_take (i := 5) (v := ?_) rfl (by kernel_rfl) (by kernel_rfl) (by kernel_rfl) (fun _ _ _ h => h) (Or.inl ⟨by rfl, ?_⟩) hHeld ?_; rotate_left; (intro w hSw; skip; (go_simp <;> with_reducible rfl)); simp only [List.getElem_toArray, List.getElem_cons_zero, List.getElem_cons_succ, Act.put, List.setIfInBounds_toArray, List.set_cons_zero, List.set_cons_succ])
  refine wpAnyH_ready (rs := [3, 6]) (by kernel_rfl) (by simp) ?_
  refine (AllReadyH.cons rfl (fun K hK => ?_) (AllReadyH.cons rfl (fun K hK => ?_) AllReadyH.nil))
  · go_simp
    skip
    refine hK.out _ _ trivial (fun hHeld => ?_)
    clear hK K
    try simp only [List.getElem_toArray, List.getElem_cons_zero, List.getElem_cons_succ, Act.put, List.setIfInBounds_toArray, List.set_cons_zero, List.set_cons_succ]
    refine wpAnyH_ready (rs := [6]) (by kernel_rfl) (by simp) ?_
    refine (AllReadyH.cons rfl (fun K hK => ?_) AllReadyH.nil)
    go_simp
    (have HO1 := hid (HOd.out.later (bmore (Below.refl _ _) (.cells #[.int .i64 p, .int .i64 x] 72))); have HX1 := hid (HXd.out.alloc (.cells #[.int .i64 p, .int .i64 x] 72)); have HB1 := hid ((Below.refl base W).drew.alloc hbW (.cells #[.int .i64 p, .int .i64 x] 72)))
    refine hK.out _ _ trivial (fun hHeld => ?_)
    clear hK K
    try simp only [List.getElem_toArray, List.getElem_cons_zero, List.getElem_cons_succ, Act.put, List.setIfInBounds_toArray, List.set_cons_zero, List.set_cons_succ]
    refine wpAnyH_ready (rs := [7]) (by kernel_rfl) (by simp) ?_
    refine (AllReadyH.cons rfl (fun K hK => ?_) AllReadyH.nil)
    (refine step_append_rest _ rfl _ _ rfl base _ R rfl HO1.out W.heap.size 1 p x (0, 0) rfl (World.alloc_heap_new W.drew _) hl (Nat.le_trans hbW HB1.out.size) ?_; intro g5 cap5 n5 w5 hn5 ho5 hg5 hat5; subst hn5; have HX5 := hid (HX1.out.kept hg5 (fun e => hne (Option.some.inj e))); have c5 := HX5.out.cell 0; have f5 := HX5.out.frozen 0; have HB5 := hid (HB1.out.trans (below_of_grown hg5 (Nat.le_trans hbW HB1.out.size) (fun j e => by cases e; exact hbg))); have hne5 : b ≠ g5 := (by rcases hat5 with e | e; (cases e; exact fun q => hne q.symm); (have hs : b < (W.alloc (.cells #[.int .i64 p, .int .i64 x] 72)).drew.heap.size := HX1.out.lt; rw [e]; exact Nat.ne_of_lt hs)))
    refine hK.out _ _ trivial (fun hHeld => ?_)
    clear hK K
    try simp only [List.getElem_toArray, List.getElem_cons_zero, List.getElem_cons_succ, Act.put, List.setIfInBounds_toArray, List.set_cons_zero, List.set_cons_succ]
    (refine wpAnyH_take (i := 8) (v := ?_) rfl (by kernel_rfl) (by kernel_rfl) (by kernel_rfl) (fun _ _ _ h => h) (Or.inl ⟨by rfl, ?_⟩) hHeld ?_; rotate_left; (intro w hSw; skip; (go_simp <;> with_reducible rfl)); simp only [List.getElem_toArray, List.getElem_cons_zero, List.getElem_cons_succ, Act.put, List.setIfInBounds_toArray, List.set_cons_zero, List.set_cons_succ])
    refine wpAnyH_ready (rs := [9]) (by kernel_rfl) (by simp) ?_
    refine (AllReadyH.cons rfl (fun K hK => ?_) AllReadyH.nil)
    go_simp
    skip
    refine hK.out _ _ trivial (fun hHeld => ?_)
    clear hK K
    try simp only [List.getElem_toArray, List.getElem_cons_zero, List.getElem_cons_succ, Act.put, List.setIfInBounds_toArray, List.set_cons_zero, List.set_cons_succ]
    refine wpAnyH_done (by kernel_rfl) ?_ _
    refine NoPanic.normal ?_
    have HX6 := hid (HX5.out.set 0 (.slice (some ⟨g5, 0, none⟩) (R.length + 1) cap5))
    have HO6 := hid (OwR.other ho5 hne5 0 (.slice (some ⟨g5, 0, none⟩) (R.length + 1) cap5))
    have HB6 := hid (below_cell HB5.out hb 0 (.slice (some ⟨g5, 0, none⟩) (R.length + 1) cap5))
    clear HX5 HB5 HX1 HO1 HB1 ho5 hg5 hat5 hHeld c5 f5
    go_wp2
    go_end0
    exact ⟨rfl, ⟨g5, cap5, ⟨by rw [List.length_append, List.length_singleton]; exact HX6.out, by rw [List.length_append, List.length_singleton]; exact HO6.out, fun e => hne5 e.symm, hb⟩⟩, HB6.out⟩
  · go_simp
    (have HO1 := hid (HOd.out.later (bmore (Below.refl _ _) (.cells #[.int .i64 p, .int .i64 x] 72))); have HX1 := hid (HXd.out.alloc (.cells #[.int .i64 p, .int .i64 x] 72)); have HB1 := hid ((Below.refl base W).drew.alloc hbW (.cells #[.int .i64 p, .int .i64 x] 72)))
    refine hK.out _ _ trivial (fun hHeld => ?_)
    clear hK K
    try simp only [List.getElem_toArray, List.getElem_cons_zero, List.getElem_cons_succ, Act.put, List.setIfInBounds_toArray, List.set_cons_zero, List.set_cons_succ]
    refine wpAnyH_ready (rs := [3]) (by kernel_rfl) (by simp) ?_
    refine (AllReadyH.cons rfl (fun K hK => ?_) AllReadyH.nil)
    go_simp
    skip
    refine hK.out _ _ trivial (fun hHeld => ?_)
    clear hK K
    try simp only [List.getElem_toArray, List.getElem_cons_zero, List.getElem_cons_succ, Act.put, List.setIfInBounds_toArray, List.set_cons_zero, List.set_cons_succ]
    refine wpAnyH_ready (rs := [7]) (by kernel_rfl) (by simp) ?_
    refine (AllReadyH.cons rfl (fun K hK => ?_) AllReadyH.nil)
    (refine step_append_rest _ rfl _ _ rfl base _ R rfl HO1.out W.heap.size 1 p x (0, 0) rfl (World.alloc_heap_new W.drew _) hl (Nat.le_trans hbW HB1.out.size) ?_; intro g5 cap5 n5 w5 hn5 ho5 hg5 hat5; subst hn5; have HX5 := hid (HX1.out.kept hg5 (fun e => hne (Option.some.inj e))); have c5 := HX5.out.cell 0; have f5 := HX5.out.frozen 0; have HB5 := hid (HB1.out.trans (below_of_grown hg5 (Nat.le_trans hbW HB1.out.size) (fun j e => by cases e; exact hbg))); have hne5 : b ≠ g5 := (by rcases hat5 with e | e; (cases e; exact fun q => hne q.symm); (have hs : b < (W.alloc (.cells #[.int .i64 p, .int .i64 x] 72)).drew.heap.size := HX1.out.lt; rw [e]; exact Nat.ne_of_lt hs)))
    refine hK.out _ _ trivial (fun hHeld => ?_)
    clear hK K
    try simp only [List.getElem_toArray, List.getElem_cons_zero, List.getElem_cons_succ, Act.put, List.setIfInBounds_toArray, List.set_cons_zero, List.set_cons_succ]
    (refine wpAnyH_take (i := 8) (v := ?_) rfl (by kernel_rfl) (by kernel_rfl) (by kernel_rfl) (fun _ _ _ h => h) (Or.inl ⟨by rfl, ?_⟩) hHeld ?_; rotate_left; (intro w hSw; skip; (go_simp <;> with_reducible rfl)); simp only [List.getElem_toArray, List.getElem_cons_zero, List.getElem_cons_succ, Act.put, List.setIfInBounds_toArray, List.set_cons_zero, List.set_cons_succ])
    refine wpAnyH_ready (rs := [9]) (by kernel_rfl) (by simp) ?_
    refine (AllReadyH.cons rfl (fun K hK => ?_) AllReadyH.nil)
    go_simp
    skip
    refine hK.out _ _ trivial (fun hHeld => ?_)
    clear hK K
    try simp only [List.getElem_toArray, List.getElem_cons_zero, List.getElem_cons_succ, Act.put, List.setIfInBounds_toArray, List.set_cons_zero, List.set_cons_succ]
    refine wpAnyH_done (by kernel_rfl) ?_ _
    refine NoPanic.normal ?_
    have HX6 := hid (HX5.out.set 0 (.slice (some ⟨g5, 0, none⟩) (R.length + 1) cap5))
    have HO6 := hid (OwR.other ho5 hne5 0 (.slice (some ⟨g5, 0, none⟩) (R.length + 1) cap5))
    have HB6 := hid (below_cell HB5.out hb 0 (.slice (some ⟨g5, 0, none⟩) (R.length + 1) cap5))
    clear HX5 HB5 HX1 HO1 HB1 ho5 hg5 hat5 hHeld c5 f5
    go_wp2
    go_end0
    exact ⟨rfl, ⟨g5, cap5, ⟨by rw [List.length_append, List.length_singleton]; exact HX6.out, by rw [List.length_append, List.length_singleton]; exact HO6.out, fun e => hne5 e.symm, hb⟩⟩, HB6.out⟩
theorem OwR.take {base g n cap : Nat} {w : World} {ls : List B2} (h : OwR base w (.slice (some ⟨g, 0, none⟩) n cap) ls) (m : Nat) (hm : m ≤ ls.length) : OwR base w (.slice (some ⟨g, 0, none⟩) m cap) (ls.take m) := by
  have hl : (ls.take m).length = m := by rw [List.length_take]; omega
  rcases h with ⟨h0, hh⟩
  rcases hh with ⟨e, _⟩ | ⟨g', cap', cur, hv, hb, hg, hle, hc, hs, ht⟩
  · cases e
  · cases hv
    refine ⟨by rw [hl, flat_len, hl], .inr ⟨g, cap, cur, by rw [hl], hb, hg, by rw [hl]; omega, hc, hs, ?_⟩⟩
    rw [hl, flat_take, ← ht, List.take_take]
    congr 1
    omega
set_option maxHeartbeats 2000000 in
theorem popM_calls {base b g cap : Nat} {R : List B2} {W : World} (h : HP base b g cap R W) (n : Nat) (hn : R.length = n + 1) (hm : n ≤ 1000) :
    Calls Try.prog 74 #[.pointer (some ⟨b, 0, none⟩)] W fun e w' => e = .returned (.iface 72 (.agg #[.int .i64 (at2 R n).1, .int .i64 (at2 R n).2])) ∧ HP base b g cap (R.take n) w' ∧ Below base W w' := by
  obtain ⟨hlt, hbg, _, hcap, hc⟩ := h.o.at
  obtain ⟨c1, c2⟩ := hc n (by omega)
  have c0 := h.cell
  have f0 := h.x.frozen 0
  have hbl := h.x.lt
  have hb := h.hb
  have hne := h.n
  have hl : (R.take n).length = n := by rw [List.length_take]; omega
  have hx : (at2 R n).1 = (at2 R n).1 := rfl
  generalize hp : (at2 R n).1 = p at *
  generalize hy : (at2 R n).2 = y at *
  have HX := hid ((h.x.set 0 (.slice (some ⟨g, 0, none⟩) n cap)).alloc (.cells #[.int .i64 p, .int .i64 y] 72))
  have HO := hid ((OwR.other h.o (b := b) (fun e => hne e.symm) 0 (.slice (some ⟨g, 0, none⟩) n cap)).later (bmore (Below.refl _ _) (.cells #[.int .i64 p, .int .i64 y] 72)))
  have HB := hid ((below_cell (Below.refl base W) hb 0 (.slice (some ⟨g, 0, none⟩) n cap)).alloc (by simp; omega) (.cells #[.int .i64 p, .int .i64 y] 72))
  have HE := hid (fun (w' : World) (hX : Blk w' b #[.slice (some ⟨g, 0, none⟩) n cap] 67) (hO : OwR base w' (.slice (some ⟨g, 0, none⟩) R.length cap) R) => show HP base b g cap (R.take n) w' from ⟨by rw [hl]; exact hX, by rw [hl]; exact OwR.take hO n (by omega), hne, hb⟩)
  clear h hc hp hy hl hx
  generalize R.take n = R' at *
  generalize R.length = N at *
  subst hn
  go_enter Try.func74, Try.ntmps74
  go_wp2
  go_ret
  exact ⟨rfl, HE.out _ HX.out HO.out, HB.out⟩
end Go.Proofs.Ytbbejjlgfekipaa.ShaU
