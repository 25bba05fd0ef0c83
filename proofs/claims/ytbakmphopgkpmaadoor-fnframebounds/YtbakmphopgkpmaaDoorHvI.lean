/- The program halves a list. Condition: the table of turns, a list that can be halved, numbers that are not too great. -/
import Derived.Test.YtbakmphopgkpmaaDoorTeA
import Derived.Test.YtbakmphopgkpmaaDoorMixI
import Derived.Laws.CopyOwn
namespace Go.Proofs.YtbakmphopgkpmaaDoor.HvI
open Go.ChangeShapes Go.WideShapes Go.ChangeAt Go.RowKit Go.Proofs.YtbakmphopgkpmaaDoor.Num Go.Proofs.YtbakmphopgkpmaaDoor.Sli Go.Proofs.YtbakmphopgkpmaaDoor.App Go.Proofs.YtbakmphopgkpmaaDoor.Samp Go.Proofs.YtbakmphopgkpmaaDoor.Blk Go.Proofs.YtbakmphopgkpmaaDoor.TurM Go.Proofs.YtbakmphopgkpmaaDoor.HalM Go.Proofs.YtbakmphopgkpmaaDoor.IntL Go.Proofs.YtbakmphopgkpmaaDoor.TurI Go.Proofs.YtbakmphopgkpmaaDoor.MixI Go.Proofs.YtbakmphopgkpmaaDoor.Par Go.Proofs.YtbakmphopgkpmaaDoor.BkI Go.Proofs.YtbakmphopgkpmaaDoor.TeA

theorem sizeJ : (Tryd.prog.info? 2).map (·.size) = some 1 := by kernel_rfl
/-- Numbers are copied into a part of a block. -/
theorem wpList_copy_bi (w : World) {ops : Array Oper} {rest : List Oper} {o : Oper} {a : Act} {Q : Exit → Act → World → Prop} (hgd : o.guard = none) (d s : Operand)
    (ho : o.op = .call { callee := .builtin .copy, args := #[d, s], argTypes := #[30, 30] })
    (g off dLen dCap b so sLen sCap : Nat) (hd : a.eval d = .slice (some ⟨g, off, none⟩) dLen dCap) (hs : a.eval s = .slice (some ⟨b, so, none⟩) sLen sCap)
    (ys xs : List Int) (hB : Bi w g ys) (hn : xs.length = Nat.min sLen dLen) (hsrc : ∀ i, i < xs.length → w.cell? ⟨b, so + i, none⟩ = some (.int .i64 (xs.getD i 0))) (hfit : off + xs.length ≤ ys.length)
    (zs : List Int) (hz : ys.take off ++ (xs ++ ys.drop (off + xs.length)) = zs) (k : Nat) (hk : xs.length = k)
    (h : ∀ w', Bi w' g zs → w.grownBy w' (some g) → wpList Tryd.prog ops Q rest (a.put o.dst (goInt k)) w') : wpList Tryd.prog ops Q (o :: rest) a w := by
  subst hz hk
  have hB' : w.heap[g]? = some (.cells (cs ys) 2 (0, 0)) := hB
  refine wpList_copy_own hgd d s 30 30 ho 2 Tryd.underlying30 sizeJ g off dLen dCap ⟨b, so, none⟩ sLen sCap hd hs (cs ys) 2 hB' (xs.map (Value.int .i64)) (by rw [List.length_map]; exact hn) ?_ (by simpa [cs] using hfit) ?_ ?_
  · intro j v hj
    rw [List.getElem?_map] at hj
    rcases hx : xs[j]? with _ | y
    · rw [hx] at hj; cases hj
    · rw [hx] at hj; simp at hj; subst hj
      have hjl : j < xs.length := by rcases Nat.lt_or_ge j xs.length with h1 | h1; exact h1; rw [List.getElem?_eq_none h1] at hx; cases hx
      have hc := hsrc j hjl
      rw [show xs.getD j 0 = y by rw [List.getD_eq_getElem?_getD, hx, Option.getD_some]] at hc
      have e2 : (⟨b, so, none⟩ : Addr).add j = ⟨b, so + j, none⟩ := by
        by_cases hj0 : j = 0
        · subst hj0; simp [Addr.add]
        · simp [Addr.add, hj0]
      rw [e2]; exact hc
  · intro v hv
    simp at hv
    obtain ⟨y, _, rfl⟩ := hv
    rfl
  · rw [List.length_map]
    refine h _ ?_ ⟨rfl, rfl, rfl, by simp [World.setRow], fun k hk hne => setRow_other w g k _ (fun e => hne (by rw [e]))⟩
    have := setRow_heap w g (cs ys) ((cs ys).toList.take off ++ (xs.map (Value.int .i64) ++ (cs ys).toList.drop (off + xs.length))).toArray 2 (0, 0) hB'
    have e : ((cs ys).toList.take off ++ (xs.map (Value.int .i64) ++ (cs ys).toList.drop (off + xs.length))).toArray = cs (ys.take off ++ (xs ++ ys.drop (off + xs.length))) := by
      simp [cs, List.map_take, List.map_drop]
    rw [e] at this ⊢
    exact this

/-- A list whose first k places hold f, the others o. -/
def mx (m k : Nat) (f o : Nat → Int) : List Int := mkL m (fun j => if j < k then f j else o j)
theorem mx_len (m k : Nat) (f o : Nat → Int) : (mx m k f o).length = m := mkL_len _ _
theorem mx_zero (m : Nat) (f o : Nat → Int) : mx m 0 f o = mkL m o := mkL_congr (fun _ _ => by simp)
theorem mx_end (m : Nat) (f o : Nat → Int) : mx m m f o = mkL m f := mkL_congr (fun _ hi => if_pos hi)
theorem mx_get {m k : Nat} (f o : Nat → Int) (h : k < m) : (mx m k f o).getD k 0 = o k := by unfold mx; rw [mkL_get _ h, if_neg (by omega)]
theorem mx_set (m k : Nat) (f o : Nat → Int) : (mx m k f o).set k (f k) = mx m (k + 1) f o := by
  apply ext_g (by simp [mx_len])
  intro j hj
  simp only [List.length_set, mx_len] at hj
  rw [getD_set _ _ _ _ (by simpa [mx_len] using hj)]
  unfold mx
  rw [mkL_get _ hj, mkL_get _ hj]
  by_cases e : k = j
  · subst e; rw [if_pos rfl, if_pos (by omega)]
  · rw [if_neg e]
    by_cases e2 : j < k
    · rw [if_pos e2, if_pos (by omega)]
    · rw [if_neg e2, if_neg (by omega)]
end Go.Proofs.YtbakmphopgkpmaaDoor.HvI
