/- The program halves a list. Condition: the table of turns, a list that can be halved, numbers that are not too great. -/
import Derived.Test.YtgnbailcibhenaaDoorTeA
import Derived.Test.YtgnbailcibhenaaDoorMixI
import Derived.Laws.CopyOwn
namespace Go.Proofs.YtgnbailcibhenaaDoor.HvI
open Go.ChangeShapes Go.WideShapes Go.ChangeAt Go.RowKit Go.Proofs.YtgnbailcibhenaaDoor.Num Go.Proofs.YtgnbailcibhenaaDoor.Sli Go.Proofs.YtgnbailcibhenaaDoor.App Go.Proofs.YtgnbailcibhenaaDoor.Samp Go.Proofs.YtgnbailcibhenaaDoor.Blk Go.Proofs.YtgnbailcibhenaaDoor.TurM Go.Proofs.YtgnbailcibhenaaDoor.HalM Go.Proofs.YtgnbailcibhenaaDoor.IntL Go.Proofs.YtgnbailcibhenaaDoor.TurI Go.Proofs.YtgnbailcibhenaaDoor.MixI Go.Proofs.YtgnbailcibhenaaDoor.Par Go.Proofs.YtgnbailcibhenaaDoor.BkI Go.Proofs.YtgnbailcibhenaaDoor.TeA

theorem sizeJ : (Tryd.prog.info? 2).map (·.size) = some 1 := by kernel_rfl
/-- Numbers are copied into a part of a block. -/
theorem wpList_copy_bi (w : World) {ops : Array Oper} {rest : List Oper} {o : Oper} {a : Act} {Q : Exit → Act → World → Prop} (hgd : o.guard = none) (d s : Operand)
    (ho : o.op = .call { callee := .builtin .copy, args := #[d, s], argTypes := #[27, 27] })
    (g off dLen dCap b so sLen sCap : Nat) (hd : a.eval d = .slice (some ⟨g, off, none⟩) dLen dCap) (hs : a.eval s = .slice (some ⟨b, so, none⟩) sLen sCap)
    (ys xs : List Int) (hB : Bi w g ys) (hn : xs.length = Nat.min sLen dLen) (hsrc : ∀ i, i < xs.length → w.cell? ⟨b, so + i, none⟩ = some (.int .i64 (xs.getD i 0))) (hfit : off + xs.length ≤ ys.length)
    (zs : List Int) (hz : ys.take off ++ (xs ++ ys.drop (off + xs.length)) = zs) (k : Nat) (hk : xs.length = k)
    (h : ∀ w', Bi w' g zs → w.grownBy w' (some g) → wpList Tryd.prog ops Q rest (a.put o.dst (goInt k)) w') : wpList Tryd.prog ops Q (o :: rest) a w := by
  subst hz hk
  have hB' : w.heap[g]? = some (.cells (cs ys) 2 (0, 0)) := hB
  refine wpList_copy_own hgd d s 27 27 ho 2 Tryd.underlying27 sizeJ g off dLen dCap ⟨b, so, none⟩ sLen sCap hd hs (cs ys) 2 hB' (xs.map (Value.int .i64)) (by rw [List.length_map]; exact hn) ?_ (by simpa [cs] using hfit) ?_ ?_
  · intro j v hj
    rw [List.getElem?_map] at hj
    rcases hx : xs[j]? with _ | y
    · rw [hx] at hj; cases hj
    · rw [hx] at hj; simp at hj; subst hj
      have hjl : j < xs.length := by rcases Nat.lt_or_ge j xs.length with h1 | h1; exact h1; rw [List.getElem?_eq_none h1] at hx; cases hx
      have hc := hsrc j hjl
      rw [show xs.getD j 0 = y by rw [List.getD_eq_getElem?_getD, hx, Option.getD_some]] at hc
      have e2 : (⟨b, so, none⟩ : Addr).add j = ⟨b, so + j, none⟩ := by
        by_cases hj0 : j = 0
        · subst hj0; simp [Addr.add]
        · simp [Addr.add, hj0]
      rw [e2]; exact hc
  · intro v hv
    simp at hv
    obtain ⟨y, _, rfl⟩ := hv
    rfl
  · rw [List.length_map]
    refine h _ ?_ ⟨rfl, rfl, rfl, by simp [World.setRow], fun k hk hne => setRow_other w g k _ (fun e => hne (by rw [e]))⟩
    have := setRow_heap w g (cs ys) ((cs ys).toList.take off ++ (xs.map (Value.int .i64) ++ (cs ys).toList.drop (off + xs.length))).toArray 2 (0, 0) hB'
    have e : ((cs ys).toList.take off ++ (xs.map (Value.int .i64) ++ (cs ys).toList.drop (off + xs.length))).toArray = cs (ys.take off ++ (xs ++ ys.drop (off + xs.length))) := by
      simp [cs, List.map_take, List.map_drop]
    rw [e] at this ⊢
    exact this

/-- A list whose first k places hold f, the others o. -/
def mx (m k : Nat) (f o : Nat → Int) : List Int := mkL m (fun j => if j < k then f j else o j)
theorem mx_len (m k : Nat) (f o : Nat → Int) : (mx m k f o).length = m := mkL_len _ _
theorem mx_zero (m : Nat) (f o : Nat → Int) : mx m 0 f o = mkL m o := mkL_congr (fun _ _ => by simp)
theorem mx_end (m : Nat) (f o : Nat → Int) : mx m m f o = mkL m f := mkL_congr (fun _ hi => if_pos hi)
theorem mx_get {m k : Nat} (f o : Nat → Int) (h : k < m) : (mx m k f o).getD k 0 = o k := by unfold mx; rw [mkL_get _ h, if_neg (by omega)]
theorem mx_set (m k : Nat) (f o : Nat → Int) : (mx m k f o).set k (f k) = mx m (k + 1) f o := by
  apply ext_g (by simp [mx_len])
  intro j hj
  simp only [List.length_set, mx_len] at hj
  rw [getD_set _ _ _ _ (by simpa [mx_len] using hj)]
  unfold mx
  rw [mkL_get _ hj, mkL_get _ hj]
  by_cases e : k = j
  · subst e; rw [if_pos rfl, if_pos (by omega)]
  · rw [if_neg e]
    by_cases e2 : j < k
    · rw [if_pos e2, if_pos (by omega)]
    · rw [if_neg e2, if_neg (by omega)]
/-- What is kept while a list is halved: both halves, each in a block of its own. -/
structure HV (w : World) (gs gd : Nat) (S D : List Int) (W : World) : Prop where
  ne : gs ≠ gd
  ls : w.heap.size ≤ gs
  ld : w.heap.size ≤ gd
  s : Bi W gs S
  d : Bi W gd D
  b : Below w.heap.size w W
section
variable {w W W' : World} {gs gd : Nat} {S D : List Int}
theorem HV.later (h : HV w gs gd S D W) (hb : Below W.heap.size W W') : HV w gs gd S D W' := ⟨h.ne, h.ls, h.ld, h.s.later hb, h.d.later hb, bthen h.b hb⟩
theorem HV.newS {S' : List Int} (h : HV w gs gd S D W) (hB : Bi W' gs S') (hg : W.grownBy W' (some gs)) : HV w gs gd S' D W' :=
  ⟨h.ne, h.ls, h.ld, hB, h.d.kept hg (by simp; exact h.ne), h.b.trans (below_of_grown hg h.b.size (fun j e => by cases e; exact h.ls))⟩
theorem HV.newD {D' : List Int} (h : HV w gs gd S D W) (hB : Bi W' gd D') (hg : W.grownBy W' (some gd)) : HV w gs gd S D' W' :=
  ⟨h.ne, h.ls, h.ld, h.s.kept hg (by simp; exact h.ne.symm), hB, h.b.trans (below_of_grown hg h.b.size (fun j e => by cases e; exact h.ld))⟩
theorem HV.made (w : World) (xs : List Int) : HV w w.heap.size (w.heap.size + 1) xs xs ((w.alloc (.cells (cs xs) 2)).alloc (.cells (cs xs) 2)).drew := by
  refine ⟨by omega, by omega, by omega, Blk.alloc (Blk.new w _ _) _, ?_, (bmore (bmore (Below.refl _ _) _) _).drew⟩
  have := Blk.new (w.alloc (.cells (cs xs) 2)) (cs xs) 2
  rw [World.size_alloc] at this
  exact this
theorem HV.made2 (w : World) (xs : List Int) : HV w (w.heap.size + 1) w.heap.size xs xs ((w.alloc (.cells (cs xs) 2)).alloc (.cells (cs xs) 2)).drew :=
  let h := HV.made w xs
  ⟨h.ne.symm, h.ld, h.ls, h.d, h.s, h.b⟩
end

set_option maxHeartbeats 4000000 in
theorem halve_calls (v : Value) (l : List Int) (w : World) (h : Sl .i64 w v l) (hf : Fits v) (hn : sz4 l.length) (hl : lim 34359738368 l) (hT : Tab w) :
    Calls Tryd.prog 88 #[v] w fun e w' => ∃ gs gd, e = .returned (.tuple #[.slice (some ⟨gs, 0, none⟩) (l.length / 2 : Nat) (l.length / 2 : Nat), .slice (some ⟨gd, 0, none⟩) (l.length / 2 : Nat) (l.length / 2 : Nat)]) ∧ HV w gs gd (hS l) (hD l) w' := by
  have Hn := hid hn
  have HL := hid hl
  have HT := hid hT
  have n2 : 2 ≤ l.length ∧ l.length ≤ 16 := by unfold sz4 at hn; omega
  have hne : l ≠ [] := by intro e; rw [e] at n2; simp at n2
  obtain ⟨a, cap, rfl, hc⟩ := h
  obtain ⟨b, off, rfl, hbl, hcell⟩ := hc hne
  have hcap : l.length ≤ cap := hf
  have HC := hid hcell
  clear hc hcell hne hn hl hT hf
  have hm0 : ((l.length : Int)).tdiv 2 = ((l.length / 2 : Nat) : Int) := by rcases Hn.out with e | e | e | e <;> rw [e] <;> rfl
  have hm1 : 2 * (l.length / 2) = l.length := sz4_even Hn.out
  generalize hmm : l.length / 2 = m at *
  have Hm := hid hmm
  clear hmm
  generalize hln : l.length = n at *
  have Hln := hid hln
  clear hln
  have hmk := make_i m (by omega)
  go_enter Tryd.func88, Tryd.ntmps88
  go_upto_region 2 with fail
  go_cut [2, 3] from 10 to 13 (fun s d wc => ∃ gs gd : Nat, s = .slice (some ⟨gs, 0, none⟩) m m ∧ d = .slice (some ⟨gd, 0, none⟩) m m ∧ Hid (HV w gs gd (List.replicate m 0) (List.replicate m 0) wc))
  case first =>
    have h1 := HV.made w (List.replicate m 0)
    have h2 := HV.made2 w (List.replicate m 0)
    refine wp_region_noPanic ?_
    refine wp_region_held_drew (S := fun _ => True) (by kernel_rfl) trivial (fun hHeld => ?_)
    (refine wpAnyH_take (i := 0) (v := ?_) rfl (by kernel_rfl) (by kernel_rfl) (by kernel_rfl) (fun _ _ _ h => h) (Or.inl ⟨by rfl, ?_⟩) hHeld ?_; rotate_left; (intro w hSw; skip; (go_simp <;> with_reducible rfl)); simp only [List.getElem_toArray, List.getElem_cons_zero, Act.put, List.setIfInBounds_toArray, List.set_cons_zero, List.set_cons_succ])
    (refine wpAnyH_take (i := 2) (v := ?_) rfl (by kernel_rfl) (by kernel_rfl) (by kernel_rfl) (fun _ _ _ h => h) (Or.inl ⟨by rfl, ?_⟩) hHeld ?_; rotate_left; (intro w hSw; skip; (go_simp <;> with_reducible rfl)); simp only [List.getElem_toArray, List.getElem_cons_zero, List.getElem_cons_succ, Act.put, List.setIfInBounds_toArray, List.set_cons_zero, List.set_cons_succ])
    refine wpAnyH_ready (rs := [1, 3]) (by kernel_rfl) (by simp) ?_
    refine (AllReadyH.cons rfl (fun K hK => ?_) (AllReadyH.cons rfl (fun K hK => ?_) AllReadyH.nil))
    · go_simp
      skip
      refine hK.out _ _ trivial (fun hHeld => ?_)
      clear hK K
      try simp only [List.getElem_toArray, List.getElem_cons_zero, List.getElem_cons_succ, Act.put, List.setIfInBounds_toArray, List.set_cons_zero, List.set_cons_succ]
      (refine wpAnyH_take (i := 4) (v := ?_) rfl (by kernel_rfl) (by kernel_rfl) (by kernel_rfl) (fun _ _ _ h => h) (Or.inl ⟨by rfl, ?_⟩) hHeld ?_; rotate_left; (intro w hSw; skip; (go_simp <;> with_reducible rfl)); simp only [List.getElem_toArray, List.getElem_cons_zero, List.getElem_cons_succ, Act.put, List.setIfInBounds_toArray, List.set_cons_zero, List.set_cons_succ])
      refine wpAnyH_ready (rs := [3]) (by kernel_rfl) (by simp) ?_
      refine (AllReadyH.cons rfl (fun K hK => ?_) AllReadyH.nil)
      go_simp
      skip
      refine hK.out _ _ trivial (fun hHeld => ?_)
      clear hK K
      try simp only [List.getElem_toArray, List.getElem_cons_zero, List.getElem_cons_succ, Act.put, List.setIfInBounds_toArray, List.set_cons_zero, List.set_cons_succ]
      (refine wpAnyH_take (i := 5) (v := ?_) rfl (by kernel_rfl) (by kernel_rfl) (by kernel_rfl) (fun _ _ _ h => h) (Or.inl ⟨by rfl, ?_⟩) hHeld ?_; rotate_left; (intro w hSw; skip; (go_simp <;> with_reducible rfl)); simp only [List.getElem_toArray, List.getElem_cons_zero, List.getElem_cons_succ, Act.put, List.setIfInBounds_toArray, List.set_cons_zero, List.set_cons_succ])
      refine wpAnyH_done (by kernel_rfl) ?_ _
      refine NoPanic.normal ?_
      go_wp2_with fail
      go_meet
      case rel => first | exact ⟨_, _, rfl, rfl, h1⟩ | exact ⟨_, _, rfl, rfl, h2⟩
    · go_simp
      skip
      refine hK.out _ _ trivial (fun hHeld => ?_)
      clear hK K
      try simp only [List.getElem_toArray, List.getElem_cons_zero, List.getElem_cons_succ, Act.put, List.setIfInBounds_toArray, List.set_cons_zero, List.set_cons_succ]
      refine wpAnyH_ready (rs := [1]) (by kernel_rfl) (by simp) ?_
      refine (AllReadyH.cons rfl (fun K hK => ?_) AllReadyH.nil)
      go_simp
      skip
      refine hK.out _ _ trivial (fun hHeld => ?_)
      clear hK K
      try simp only [List.getElem_toArray, List.getElem_cons_zero, List.getElem_cons_succ, Act.put, List.setIfInBounds_toArray, List.set_cons_zero, List.set_cons_succ]
      (refine wpAnyH_take (i := 4) (v := ?_) rfl (by kernel_rfl) (by kernel_rfl) (by kernel_rfl) (fun _ _ _ h => h) (Or.inl ⟨by rfl, ?_⟩) hHeld ?_; rotate_left; (intro w hSw; skip; (go_simp <;> with_reducible rfl)); simp only [List.getElem_toArray, List.getElem_cons_zero, List.getElem_cons_succ, Act.put, List.setIfInBounds_toArray, List.set_cons_zero, List.set_cons_succ])
      (refine wpAnyH_take (i := 5) (v := ?_) rfl (by kernel_rfl) (by kernel_rfl) (by kernel_rfl) (fun _ _ _ h => h) (Or.inl ⟨by rfl, ?_⟩) hHeld ?_; rotate_left; (intro w hSw; skip; (go_simp <;> with_reducible rfl)); simp only [List.getElem_toArray, List.getElem_cons_zero, List.getElem_cons_succ, Act.put, List.setIfInBounds_toArray, List.set_cons_zero, List.set_cons_succ])
      refine wpAnyH_done (by kernel_rfl) ?_ _
      refine NoPanic.normal ?_
      go_wp2_with fail
      go_meet
      case rel => first | exact ⟨_, _, rfl, rfl, h1⟩ | exact ⟨_, _, rfl, rfl, h2⟩
  case rest =>
    obtain ⟨gs, gd, rfl, rfl, HK⟩ := hcut
    clear hmk
    have hmI : (m : Int) ≤ (cap : Int) := by omega
    have hmI2 : (m : Int) ≤ (n : Int) := by omega
    obtain ⟨X, hX1, hX2⟩ : ∃ X : List Int, X.length = m ∧ ∀ i, i < m → X.getD i 0 = l.getD i 0 := ⟨mkL m (fun i => l.getD i 0), mkL_len _ _, fun i hi => mkL_get _ hi⟩
    obtain ⟨Y, hY1, hY2⟩ : ∃ Y : List Int, Y.length = m ∧ ∀ i, i < m → Y.getD i 0 = l.getD (m + i) 0 := ⟨mkL m (fun i => l.getD (m + i) 0), mkL_len _ _, fun i hi => mkL_get _ hi⟩
    have HX := hid (And.intro hX1 hX2)
    have HY := hid (And.intro hY1 hY2)
    clear hX1 hX2 hY1 hY2
    go_wp2_with (refine wpList_copy_bi _ rfl _ _ rfl gs 0 m m b off m cap rfl rfl (List.replicate m 0) X HK.out.s ?c1 ?c2 ?c3 X ?c4 m HX.out.1 ?_)
    case c1 => rw [HX.out.1]; exact (Nat.min_self m).symm
    case c2 =>
      intro i hi
      rw [HX.out.1] at hi
      rw [HK.out.b.cell (p := ⟨b, off + i, none⟩) hbl, HC.out i (by omega), HX.out.2 i hi]
    case c3 => rw [HX.out.1, List.length_replicate]; omega
    case c4 => rw [HX.out.1, List.take_zero, List.nil_append, List.drop_of_length_le (by simp), List.append_nil]
    intro w1 hB1 hg1
    have HK1 := hid (HK.out.newS hB1 hg1)
    clear hB1 hg1 HK
    go_wp2_with (refine wpList_copy_bi _ rfl _ _ rfl gd 0 m m b (off + m) (n - m) (cap - m) rfl rfl (List.replicate m 0) Y HK1.out.d ?c1 ?c2 ?c3 Y ?c4 m HY.out.1 ?_)
    case c1 => rw [HY.out.1, show n - m = m by omega]; exact (Nat.min_self m).symm
    case c2 =>
      intro i hi
      rw [HY.out.1] at hi
      rw [HK1.out.b.cell (p := ⟨b, off + m + i, none⟩) hbl, Nat.add_assoc, HC.out (m + i) (by omega), HY.out.2 i hi]
    case c3 => rw [HY.out.1, List.length_replicate]; omega
    case c4 => rw [HY.out.1, List.take_zero, List.nil_append, List.drop_of_length_le (by simp), List.append_nil]
    intro w2 hB2 hg2
    have HK2 := hid (HK1.out.newD hB2 hg2)
    clear hB2 hg2 HK1
    go_wp2_with fail
    refine (reverse_calls gd m 0 m [] Y w2 HK2.out.d rfl HY.out.1 (by omega)).mono ?_
    rintro e w3 ⟨rfl, hB3, hg3⟩
    have HK3 : Hid (HV w gs gd (mx m 0 (hSe l) (fun j => l.getD j 0)) (mx m 0 (hDe l) (fun j => l.getD (n - 1 - j) 0)) w3) := by
      have := HK2.out.newD hB3 hg3
      rw [List.nil_append] at this
      rw [mx_zero, mx_zero, show mkL m (fun j => l.getD j 0) = X from ?_, show mkL m (fun j => l.getD (n - 1 - j) 0) = Y.reverse from ?_]
      · exact this
      · apply ext_g (by rw [mkL_len, List.length_reverse, HY.out.1])
        intro i hi
        rw [mkL_len] at hi
        rw [mkL_get _ hi, rev_get Y i (by rw [HY.out.1]; exact hi), HY.out.1, HY.out.2 _ (by omega), show m + (m - 1 - i) = n - 1 - i by omega]
      · apply ext_g (by rw [mkL_len, HX.out.1])
        intro i hi
        rw [mkL_len] at hi
        rw [mkL_get _ hi, HX.out.2 i hi]
    clear hB3 hg3 HK2 HX HY
    have HSe := hid (fun i => show hSe l i = l.getD (n - 1 - i) 0 + (l.getD i 0 - l.getD (n - 1 - i) 0) / 2 by unfold hSe; rw [Hln.out])
    have HDe := hid (fun i => show hDe l i = l.getD i 0 - l.getD (n - 1 - i) 0 by unfold hDe; rw [Hln.out])
    have HES : Hid (mkL m (hSe l) = hS l) := by show _ = _; unfold hS; rw [Hln.out, Hm.out]
    have HED : Hid (mkL m (hDe l) = hD0 l) := by show _ = _; unfold hD0; rw [Hln.out, Hm.out]
    have HP := hid pairOf_calls
    generalize hSe l = fs at *
    generalize hDe l = fd at *
    generalize hos : (fun j => l.getD j 0) = os at *
    generalize hod : (fun j => l.getD (n - 1 - j) 0) = od at *
    have HOs : Hid (∀ i, os i = l.getD i 0) := fun i => by rw [← hos]
    have HOd : Hid (∀ i, od i = l.getD (n - 1 - i) 0) := fun i => by rw [← hod]
    clear hos hod HC
    go_wp2
    go_loopw [27] (fun i wr => ∃ k : Nat, i = .int .i64 (k : Int) ∧ k ≤ m ∧ Hid (HV w gs gd (mx m k fs os) (mx m k fd od) wr)) (fun i _ => m - (intOf i).toNat)
    case atStart => exact ⟨0, rfl, Nat.zero_le _, HK3⟩
    case round =>
      obtain ⟨k, rfl, hk, HK⟩ := hrel
      clear HK3
      by_cases hlt : k < m
      · have hs0 := HSe.out k
        have hd0 := HDe.out k
        have hx := HL.out k
        have hy := HL.out (n - 1 - k)
        have HMx := hid (fun W => mixed_calls (l.getD k 0) (l.getD (n - 1 - k) 0) W (by omega) (by omega))
        rw [← hs0, ← hd0] at HMx
        have HCe : Hid (∀ W, HV w gs gd (mx m k fs os) (mx m k fd od) W → (W.cell? ⟨gs, k, none⟩ = some (.int .i64 (l.getD k 0)) ∧ W.frozen? ⟨gs, k, none⟩ = false) ∧ (W.cell? ⟨gd, k, none⟩ = some (.int .i64 (l.getD (n - 1 - k) 0)) ∧ W.frozen? ⟨gd, k, none⟩ = false)) := by
          intro W hW
          have c1 := hW.s.cell k (by rw [mx_len]; exact hlt)
          have c2 := hW.d.cell k (by rw [mx_len]; exact hlt)
          rw [mx_get _ _ hlt, HOs.out k] at c1
          rw [mx_get _ _ hlt, HOd.out k] at c2
          exact ⟨c1, c2⟩
        have HN : Hid (∀ W, HV w gs gd (mx m k fs os) (mx m k fd od) W → HV w gs gd (mx m (k + 1) fs os) (mx m (k + 1) fd od) ((W.setCell ⟨gs, k, none⟩ (.int .i64 (fs k))).setCell ⟨gd, k, none⟩ (.int .i64 (fd k))).drew) := by
          intro W hW
          have h1 := (hW.s.set k (fs k)).other hW.ne.symm k (.int .i64 (fd k))
          have h2 := (hW.d.other hW.ne k (.int .i64 (fs k))).set k (fd k)
          rw [mx_set] at h1 h2
          exact ⟨hW.ne, hW.ls, hW.ld, h1, h2, (below_cell (below_cell hW.b hW.ls _ _) hW.ld _ _).drew⟩
        have hkI : (k : Int) < (m : Int) := by omega
        clear hs0 hd0 hx hy
        generalize l.getD k 0 = x at *
        generalize l.getD (n - 1 - k) 0 = y at *
        generalize fs k = xa at *
        generalize fd k = xb at *
        go_upto_region 9 with fail
        go_cut [6] from 30 to 39 (fun z wc => ∃ E : Nat, z = .pointer (some ⟨E, 0, none⟩) ∧ wr.heap.size ≤ E ∧ Hid (Blk wc E #[.int .i64 xa, .int .i64 xb] 152) ∧ Hid (Below wr.heap.size wr wc))
        case first =>
          have hL0 : Below wr.heap.size wr wr.drew := (Below.refl _ wr).drew
          have hA1 : Below wr.heap.size wr (wr.alloc (.cells #[.int .i64 0, .int .i64 0] 152)).drew := (bmore (Below.refl _ wr) _).drew
          have hE1 : Blk (wr.alloc (.cells #[.int .i64 0, .int .i64 0] 152)).drew wr.heap.size #[.int .i64 0, .int .i64 0] 152 := Blk.new wr _ _
          obtain ⟨⟨c1, _⟩, ⟨c2, _⟩⟩ := HCe.out _ HK.out
          have hgs := HK.out.s.lt
          have hgd := HK.out.d.lt
          refine wp_region_noPanic ?_
          refine wp_region_held_drew (S := fun W => Below wr.heap.size wr W) (by kernel_rfl) (by first | exact hP9 | exact hL9 | exact hL8 | exact hP7 | exact hL7 | exact hA1 | exact hL0) (fun hHeld => ?_)
          (refine wpAnyH_take (i := 0) (v := ?_) rfl (by kernel_rfl) (by kernel_rfl) (by kernel_rfl) (fun _ _ _ h => h) (Or.inl ⟨by rfl, ?_⟩) hHeld ?_; rotate_left; (intro w hSw; (have s1 := (hSw.cell (p := ⟨gs, k, none⟩) hgs).trans c1; have s2 := (hSw.cell (p := ⟨gd, k, none⟩) hgd).trans c2; clear hSw); (go_simp <;> with_reducible rfl)); simp only [List.getElem_toArray, List.getElem_cons_zero, Act.put, List.setIfInBounds_toArray, List.set_cons_zero, List.set_cons_succ])
          (refine wpAnyH_take (i := 1) (v := ?_) rfl (by kernel_rfl) (by kernel_rfl) (by kernel_rfl) (fun _ _ _ h => h) (Or.inl ⟨by rfl, ?_⟩) hHeld ?_; rotate_left; (intro w hSw; (have s1 := (hSw.cell (p := ⟨gs, k, none⟩) hgs).trans c1; have s2 := (hSw.cell (p := ⟨gd, k, none⟩) hgd).trans c2; clear hSw); (go_simp <;> with_reducible rfl)); simp only [List.getElem_toArray, List.getElem_cons_zero, List.getElem_cons_succ, Act.put, List.setIfInBounds_toArray, List.set_cons_zero, List.set_cons_succ])
          (refine wpAnyH_take (i := 2) (v := ?_) rfl (by kernel_rfl) (by kernel_rfl) (by kernel_rfl) (fun _ _ _ h => h) (Or.inl ⟨by rfl, ?_⟩) hHeld ?_; rotate_left; (intro w hSw; (have s1 := (hSw.cell (p := ⟨gs, k, none⟩) hgs).trans c1; have s2 := (hSw.cell (p := ⟨gd, k, none⟩) hgd).trans c2; clear hSw); (go_simp <;> with_reducible rfl)); simp only [List.getElem_toArray, List.getElem_cons_zero, List.getElem_cons_succ, Act.put, List.setIfInBounds_toArray, List.set_cons_zero, List.set_cons_succ])
          (refine wpAnyH_take (i := 3) (v := ?_) rfl (by kernel_rfl) (by kernel_rfl) (by kernel_rfl) (fun _ _ _ h => h) (Or.inl ⟨by rfl, ?_⟩) hHeld ?_; rotate_left; (intro w hSw; (have s1 := (hSw.cell (p := ⟨gs, k, none⟩) hgs).trans c1; have s2 := (hSw.cell (p := ⟨gd, k, none⟩) hgd).trans c2; clear hSw); (go_simp <;> with_reducible rfl)); simp only [List.getElem_toArray, List.getElem_cons_zero, List.getElem_cons_succ, Act.put, List.setIfInBounds_toArray, List.set_cons_zero, List.set_cons_succ])
          (refine wpAnyH_take (i := 4) (v := ?_) rfl (by kernel_rfl) (by kernel_rfl) (by kernel_rfl) (fun _ _ _ h => h) (Or.inl ⟨by rfl, ?_⟩) hHeld ?_; rotate_left; (intro w hSw; (have s1 := (hSw.cell (p := ⟨gs, k, none⟩) hgs).trans c1; have s2 := (hSw.cell (p := ⟨gd, k, none⟩) hgd).trans c2; clear hSw); (go_simp <;> with_reducible rfl)); simp only [List.getElem_toArray, List.getElem_cons_zero, List.getElem_cons_succ, Act.put, List.setIfInBounds_toArray, List.set_cons_zero, List.set_cons_succ])
          (refine wpAnyH_take (i := 5) (v := ?_) rfl (by kernel_rfl) (by kernel_rfl) (by kernel_rfl) (fun _ _ _ h => h) (Or.inl ⟨by rfl, ?_⟩) hHeld ?_; rotate_left; (intro w hSw; (have s1 := (hSw.cell (p := ⟨gs, k, none⟩) hgs).trans c1; have s2 := (hSw.cell (p := ⟨gd, k, none⟩) hgd).trans c2; clear hSw); (go_simp <;> with_reducible rfl)); simp only [List.getElem_toArray, List.getElem_cons_zero, List.getElem_cons_succ, Act.put, List.setIfInBounds_toArray, List.set_cons_zero, List.set_cons_succ])
          (refine wpAnyH_take (i := 6) (v := ?_) rfl (by kernel_rfl) (by kernel_rfl) (by kernel_rfl) (fun _ _ _ h => h) (Or.inl ⟨by rfl, ?_⟩) hHeld ?_; rotate_left; (intro w hSw; (have s1 := (hSw.cell (p := ⟨gs, k, none⟩) hgs).trans c1; have s2 := (hSw.cell (p := ⟨gd, k, none⟩) hgd).trans c2; clear hSw); (go_simp <;> with_reducible rfl)); simp only [List.getElem_toArray, List.getElem_cons_zero, List.getElem_cons_succ, Act.put, List.setIfInBounds_toArray, List.set_cons_zero, List.set_cons_succ])
          (refine wpAnyH_take (i := 7) (v := ?_) rfl (by kernel_rfl) (by kernel_rfl) (by kernel_rfl) (fun _ _ _ h => h) (Or.inl ⟨by rfl, ?_⟩) hHeld ?_; rotate_left; (intro w hSw; (have s1 := (hSw.cell (p := ⟨gs, k, none⟩) hgs).trans c1; have s2 := (hSw.cell (p := ⟨gd, k, none⟩) hgd).trans c2; clear hSw); (go_simp <;> with_reducible rfl)); simp only [List.getElem_toArray, List.getElem_cons_zero, List.getElem_cons_succ, Act.put, List.setIfInBounds_toArray, List.set_cons_zero, List.set_cons_succ])
          refine wpAnyH_ready (rs := [8, 10]) (by kernel_rfl) (by simp) ?_
          refine (AllReadyH.cons rfl (fun K hK => ?_) (AllReadyH.cons rfl (fun K hK => ?_) AllReadyH.nil))
          · go_simp
            (refine (HP.out _ _ _).mono ?_; rintro e w8 ⟨rfl, hb8⟩; have hL8 := bthen hHeld hb8; have hL7 := bmore hL8 (.cells #[.int .i64 0, .int .i64 0] 152); have hE8 := Blk.new w8 #[.int .i64 0, .int .i64 0] 152; have hle8 : wr.heap.size ≤ w8.heap.size := hL8.size)
            refine hK.out _ _ (by first | exact hP9 | exact hL9 | exact hL8 | exact hP7 | exact hL7 | exact hA1 | exact hL0) (fun hHeld => ?_)
            clear hK K
            try dsimp only
            refine wpAnyH_ready (rs := [9, 10]) (by kernel_rfl) (by simp) ?_
            refine (AllReadyH.cons rfl (fun K hK => ?_) (AllReadyH.cons rfl (fun K hK => ?_) AllReadyH.nil))
            · go_simp
              (refine (HMx.out _).mono ?_; rintro e w9 ⟨rfl, hb9⟩; have hL9 := bthen hHeld hb9; clear hE8; have hle8 : wr.heap.size ≤ w9.heap.size := hL9.size; have hL7 := bmore hL9 (.cells #[.int .i64 0, .int .i64 0] 152); have hP7 := bmore hL9 (.cells #[.int .i64 xa, .int .i64 xb] 152); have hQ9 := Blk.new w9 #[.int .i64 xa, .int .i64 xb] 152)
              refine hK.out _ _ (by first | exact hP9 | exact hL9 | exact hL8 | exact hP7 | exact hL7 | exact hA1 | exact hL0) (fun hHeld => ?_)
              clear hK K
              try dsimp only
              refine wpAnyH_ready (rs := [10]) (by kernel_rfl) (by simp) ?_
              refine (AllReadyH.cons rfl (fun K hK => ?_) AllReadyH.nil)
              go_simp
              skip
              refine hK.out _ _ (by first | exact hP9 | exact hL9 | exact hL8 | exact hP7 | exact hL7 | exact hA1 | exact hL0) (fun hHeld => ?_)
              clear hK K
              try simp only [List.getElem_toArray, List.getElem_cons_zero, List.getElem_cons_succ, Act.put, List.setIfInBounds_toArray, List.set_cons_zero, List.set_cons_succ]
              refine wpAnyH_ready (rs := [11]) (by kernel_rfl) (by simp) ?_
              refine (AllReadyH.cons rfl (fun K hK => ?_) AllReadyH.nil)
              go_simp
              skip
              refine hK.out _ _ (by first | exact hP9 | exact hL9 | exact hL8 | exact hP7 | exact hL7 | exact hA1 | exact hL0) (fun hHeld => ?_)
              clear hK K
              try simp only [List.getElem_toArray, List.getElem_cons_zero, List.getElem_cons_succ, Act.put, List.setIfInBounds_toArray, List.set_cons_zero, List.set_cons_succ]
              refine wpAnyH_done (by kernel_rfl) ?_ _
              refine NoPanic.normal ?_
              go_wp2_with fail
              go_meet
              case rel => first | exact ⟨_, rfl, hle8, hQ9, hP9⟩ | exact ⟨_, rfl, hle8, hQ9, hP7⟩
            · go_simp
              skip
              refine hK.out _ _ (by first | exact hP9 | exact hL9 | exact hL8 | exact hP7 | exact hL7 | exact hA1 | exact hL0) (fun hHeld => ?_)
              clear hK K
              try simp only [List.getElem_toArray, List.getElem_cons_zero, List.getElem_cons_succ, Act.put, List.setIfInBounds_toArray, List.set_cons_zero, List.set_cons_succ]
              refine wpAnyH_ready (rs := [9]) (by kernel_rfl) (by simp) ?_
              refine (AllReadyH.cons rfl (fun K hK => ?_) AllReadyH.nil)
              go_simp
              (refine (HMx.out _).mono ?_; rintro e w9 ⟨rfl, hb9⟩; have hL9 := bthen hHeld hb9; have hE9 := hE8.later hb9; obtain ⟨y0, y1, y2, y3⟩ := hE9.two; have hP9 := below_cell (below_cell hL9 hle8 0 (.int .i64 xa)) hle8 1 (.int .i64 xb); have hQ9 := (hE9.set 0 (.int .i64 xa)).set 1 (.int .i64 xb))
              refine hK.out _ _ (by first | exact hP9 | exact hL9 | exact hL8 | exact hP7 | exact hL7 | exact hA1 | exact hL0) (fun hHeld => ?_)
              clear hK K
              try dsimp only
              refine wpAnyH_ready (rs := [11]) (by kernel_rfl) (by simp) ?_
              refine (AllReadyH.cons rfl (fun K hK => ?_) AllReadyH.nil)
              go_simp
              skip
              refine hK.out _ _ (by first | exact hP9 | exact hL9 | exact hL8 | exact hP7 | exact hL7 | exact hA1 | exact hL0) (fun hHeld => ?_)
              clear hK K
              try simp only [List.getElem_toArray, List.getElem_cons_zero, List.getElem_cons_succ, Act.put, List.setIfInBounds_toArray, List.set_cons_zero, List.set_cons_succ]
              refine wpAnyH_done (by kernel_rfl) ?_ _
              refine NoPanic.normal ?_
              go_wp2_with fail
              go_meet
              case rel => first | exact ⟨_, rfl, hle8, hQ9, hP9⟩ | exact ⟨_, rfl, hle8, hQ9, hP7⟩
          · go_simp
            skip
            refine hK.out _ _ (by first | exact hP9 | exact hL9 | exact hL8 | exact hP7 | exact hL7 | exact hA1 | exact hL0) (fun hHeld => ?_)
            clear hK K
            try simp only [List.getElem_toArray, List.getElem_cons_zero, List.getElem_cons_succ, Act.put, List.setIfInBounds_toArray, List.set_cons_zero, List.set_cons_succ]
            refine wpAnyH_ready (rs := [8]) (by kernel_rfl) (by simp) ?_
            refine (AllReadyH.cons rfl (fun K hK => ?_) AllReadyH.nil)
            go_simp
            (refine (HP.out _ _ _).mono ?_; rintro e w8 ⟨rfl, hb8⟩; have hL8 := bthen hHeld hb8; have hE8 := hE1.later hb8; have hle8 : wr.heap.size ≤ wr.heap.size := Nat.le_refl _)
            refine hK.out _ _ (by first | exact hP9 | exact hL9 | exact hL8 | exact hP7 | exact hL7 | exact hA1 | exact hL0) (fun hHeld => ?_)
            clear hK K
            try dsimp only
            refine wpAnyH_ready (rs := [9]) (by kernel_rfl) (by simp) ?_
            refine (AllReadyH.cons rfl (fun K hK => ?_) AllReadyH.nil)
            go_simp
            (refine (HMx.out _).mono ?_; rintro e w9 ⟨rfl, hb9⟩; have hL9 := bthen hHeld hb9; have hE9 := hE8.later hb9; obtain ⟨y0, y1, y2, y3⟩ := hE9.two; have hP9 := below_cell (below_cell hL9 hle8 0 (.int .i64 xa)) hle8 1 (.int .i64 xb); have hQ9 := (hE9.set 0 (.int .i64 xa)).set 1 (.int .i64 xb))
            refine hK.out _ _ (by first | exact hP9 | exact hL9 | exact hL8 | exact hP7 | exact hL7 | exact hA1 | exact hL0) (fun hHeld => ?_)
            clear hK K
            try dsimp only
            refine wpAnyH_ready (rs := [11]) (by kernel_rfl) (by simp) ?_
            refine (AllReadyH.cons rfl (fun K hK => ?_) AllReadyH.nil)
            go_simp
            skip
            refine hK.out _ _ (by first | exact hP9 | exact hL9 | exact hL8 | exact hP7 | exact hL7 | exact hA1 | exact hL0) (fun hHeld => ?_)
            clear hK K
            try simp only [List.getElem_toArray, List.getElem_cons_zero, List.getElem_cons_succ, Act.put, List.setIfInBounds_toArray, List.set_cons_zero, List.set_cons_succ]
            refine wpAnyH_done (by kernel_rfl) ?_ _
            refine NoPanic.normal ?_
            go_wp2_with fail
            go_meet
            case rel => first | exact ⟨_, rfl, hle8, hQ9, hP9⟩ | exact ⟨_, rfl, hle8, hQ9, hP7⟩
        case rest =>
          obtain ⟨E, rfl, hE, HE, HB⟩ := hcut
          have hEs : gs ≠ E := by have := HK.out.s.lt; omega
          have hEd : gd ≠ E := by have := HK.out.d.lt; omega
          have HK4 := hid (HK.out.later HB.out)
          have hsd := HK4.out.ne
          obtain ⟨⟨c1, f1⟩, ⟨c2, f2⟩⟩ := HCe.out _ HK4.out
          obtain ⟨y0, y1, _, _⟩ := HE.out.two
          have HK5 := hid (HN.out _ HK4.out)
          have mixed := mixed_orders
          clear HK HE HB HK4 HN HCe HMx HP hE
          go_wp2_with fail
          go_region_o
          go_wp2
          go_roundw
          case rel => exact ⟨k + 1, by go_num, by omega, HK5⟩
          case measure => simp [intOf]; omega
      · obtain rfl : k = m := by omega
        rw [mx_end, mx_end, HES.out, HED.out] at HK
        clear HSe HDe HES HED HP HOs HOd hlt hk
        have Hd1 : Hid ((hD0 l).length = k) := by show _ = _; rw [hD0_len, Hln.out, Hm.out]
        have Hsz : Hid (sz4 (2 * k)) := by have := Hn.out; rwa [hm1]
        have HLd := hid ((lim_hD0 HL.out).mono (N := 137438953472) (by omega))
        have HD2 : Hid (prL (ahF (2 * k)) (2 * k) (hD0 l) = hD l) := by show _ = _; rw [hm1]; unfold hD; rw [Hln.out]
        go_wp2_with fail
        refine (endsAhead_calls gd k 0 k [] (hD0 l) _ HK.out.d rfl Hd1.out Hsz.out HLd.out (by have := HK.out.ld; obtain ⟨_, t⟩ := HT.out; have := t.lt; omega) (HT.out.later HK.out.b)).mono ?_
        rintro e w5 ⟨rfl, hB5, hg5⟩
        rw [List.nil_append, HD2.out] at hB5
        have HK6 := hid (HK.out.newD hB5 hg5)
        clear hB5 hg5 HK
        go_wp2
        go_ret2
        exact ⟨gs, gd, rfl, HK6.out⟩
end Go.Proofs.YtgnbailcibhenaaDoor.HvI
