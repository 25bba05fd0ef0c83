/- Lists of numbers: append, copies, noughts, bounds; what is kept of one list while another one turns. Condition: at most 1048576 numbers. -/
import Derived.Test.YtodfkicmmcfkaaaIntL
import Derived.Test.YtodfkicmmcfkaaaDiv
namespace Go.Proofs.Ytodfkicmmcfkaaa.IntA
open Go.ChangeShapes Go.WideShapes Go.ChangeAt Go.RowKit Go.Proofs.Ytodfkicmmcfkaaa.Num Go.Proofs.Ytodfkicmmcfkaaa.Sli Go.Proofs.Ytodfkicmmcfkaaa.App Go.Proofs.Ytodfkicmmcfkaaa.Div Go.Proofs.Ytodfkicmmcfkaaa.IntL

/-- Numbers are appended. -/
theorem wpList_append_ints (w : World) {ops : Array Oper} {rest : List Oper} {o : Oper} {a : Act} {Q : Exit → Act → World → Prop} (hgd : o.guard = none) (s x : Operand)
    (ho : o.op = .call { callee := .builtin .append, args := #[s, x], argTypes := #[24, 24] })
    (base : Nat) (v : Value) (ys : List Int) (hs : a.eval s = v) (hown : OwI base w v ys)
    (vx : Value) (xs : List Int) (hx : a.eval x = vx) (hsl : Sl .i64 w vx xs) (hne : xs ≠ []) (hlen : ys.length + xs.length ≤ 1000000) (hbase : base ≤ w.heap.size)
    (h : ∀ g cap n w', n = (ys ++ xs).length → OwI base w' (.slice (some ⟨g, 0, none⟩) n cap) (ys ++ xs) → w.grownBy w' v.ownBlock → (v.ownBlock = some g ∨ g = w.heap.size) → wpList Try.prog ops Q rest (a.put o.dst (.slice (some ⟨g, 0, none⟩) n cap)) w') : wpList Try.prog ops Q (o :: rest) a w := by
  obtain ⟨i0, hi, hz0, hz1, hz2⟩ := info_parts infoI
  obtain ⟨ax, cx, rfl, hc⟩ := hsl
  obtain ⟨b, off, rfl, hlt, hcell⟩ := hc hne
  have hpos : 0 < xs.length := by cases xs with | nil => exact absurd rfl hne | cons _ _ => simp
  have hown' : w.ownsRow base 2 1 v ys.length (ys.map (Value.int .i64)) := hown
  refine wpList_append_lies w hgd s x 24 ho base 2 i0 (.int .i64 0) 1 8 Try.underlying24 hi hz0 hz1 hz2 rfl (by decide) v ys.length _ hs hown' ⟨b, off, none⟩ xs.length cx (xs.map (Value.int .i64)) hx (by simp) ?_ ?_ hpos (by rw [show maxLen = 9223372036854775807 by decide]; omega) (by omega) hbase w.heap.size rfl ?_
  · intro j u hj
    rw [List.getElem?_map] at hj
    rcases hxj : xs[j]? with _ | y
    · rw [hxj] at hj; cases hj
    · rw [hxj] at hj; simp at hj; subst hj
      have hjl : j < xs.length := by rcases Nat.lt_or_ge j xs.length with h1 | h1; exact h1; rw [List.getElem?_eq_none h1] at hxj; cases hxj
      have hc1 := hcell j hjl
      rw [List.getD_eq_getElem?_getD, hxj, Option.getD_some] at hc1
      rw [Addr.add_lit]; exact hc1
  · intro u hu
    simp at hu
    obtain ⟨y, _, rfl⟩ := hu
    rfl
  · intro g cap w' h1 h2 h3 _
    have e : ys.length + xs.length = (ys ++ xs).length := by rw [List.length_append]
    refine h g cap _ w' e ?_ h2 h3
    show World.ownsRow _ _ _ _ _ (ys ++ xs).length ((ys ++ xs).map (Value.int .i64))
    rw [List.map_append, ← e]
    exact h1
/-- A list stays while another block turns. -/
theorem Ow.keptNe {k : IntKind} {t base : Nat} {w w' : World} {v : Value} {ys : List Int} {row : Option Nat} (h : Ow k t base w v ys) (hg : w.grownBy w' row) (hr : ∀ j, row = some j → v.ownBlock ≠ some j) : Ow k t base w' v ys := by
  have h' : w.ownsRow base t 1 v ys.length (ys.map (Value.int k)) := h
  refine h'.kept hg ?_
  cases hv : v.ownBlock with
  | none => exact Or.inl rfl
  | some j =>
    right
    intro e
    exact hr j e.symm hv
theorem all_not {B : Int → Bool} {vs : List Int} {k : Nat} (hk : k < vs.length) (hx : B (vs.getD k 0) = false) : vs.all B = false := by
  rw [List.getD_eq_getElem?_getD, List.getElem?_eq_getElem hk, Option.getD_some] at hx
  rw [List.all_eq_false]
  exact ⟨vs[k], List.getElem_mem hk, by rw [hx]; simp⟩
theorem all_yes {B : Int → Bool} {vs : List Int} (h : ∀ j, j < vs.length → B (vs.getD j 0) = true) : vs.all B = true := by
  rw [List.all_eq_true]
  intro x hx
  obtain ⟨i, hi, rfl⟩ := List.getElem_of_mem hx
  have := h i hi
  rwa [List.getD_eq_getElem?_getD, List.getElem?_eq_getElem hi, Option.getD_some] at this
theorem all_calls (v : Value) (vs : List Int) (lo hi : Int) (w : World) (h : Sl .i64 w v vs) (hm : vs.length ≤ 1048576) :
    Calls Try.prog 72 #[v, .int .i64 lo, .int .i64 hi] w fun e w' => e = .returned (.bool (vs.all (inB lo hi))) ∧ w' = w := by
  have Hs := hid h
  have HI := hid l1In_calls
  obtain ⟨a, cap, rfl, _⟩ := h
  go_enter Try.func72, Try.ntmps72
  go_wp2_with fail
  go_loop [7] (fun i => ∃ k : Nat, i = .int .i64 (k : Int) ∧ k ≤ vs.length ∧ Hid (∀ j, j < k → inB lo hi (vs.getD j 0) = true)) (fun i => vs.length - (intOf i).toNat)
  case atStart => exact ⟨0, rfl, Nat.zero_le _, fun j hj => by omega⟩
  case round =>
    obtain ⟨k, rfl, hk, hok⟩ := hrel
    by_cases hlt : k < vs.length
    · have hne : vs ≠ [] := by intro e; rw [e] at hlt; simp at hlt
      obtain ⟨a', cap', hv, hc⟩ := Hs.out
      cases hv
      obtain ⟨b, off, rfl, hbl, hcell⟩ := hc hne
      have hce := hcell k hlt
      have hno := hid (all_not (B := inB lo hi) (vs := vs) (k := k) hlt)
      have hyes : Hid (inB lo hi (vs.getD k 0) = true → ∀ j, j < k + 1 → inB lo hi (vs.getD j 0) = true) := by
        intro hx j hj
        by_cases hjk : j < k
        · exact hok.out j hjk
        · obtain rfl : j = k := by omega
          exact hx
      clear hc hcell hne hok
      generalize vs.getD k 0 = x at *
      have hkI : (k : Int) < (vs.length : Int) := by omega
      cases hin : inB lo hi x
      · have M := hid (hno.out hin)
        clear hno hyes
        go_wp2_with (go_at_call 77; refine (HI.out _ _ _ _).mono ?_; rintro e w' ⟨rfl, rfl⟩; simp only [hin])
        go_ret
        exact ⟨by rw [M.out]; rfl, rfl⟩
      · have M := hid (hyes.out hin)
        clear hno hyes
        go_wp2_with (go_at_call 77; refine (HI.out _ _ _ _).mono ?_; rintro e w' ⟨rfl, rfl⟩; simp only [hin])
        go_round
        case rel => exact ⟨k + 1, by go_num, by omega, M.out⟩
        case measure => simp [intOf]; omega
    · obtain rfl : k = vs.length := by omega
      have M := hid (all_yes hok.out)
      clear hok
      go_wp2
      go_ret
      exact ⟨by rw [M.out]; rfl, rfl⟩
theorem ints_calls (v : Value) (xs : List Int) (w : World) (h : Sl .i64 w v xs) (hlen : xs.length ≤ 1048576) :
    Calls Try.prog 68 #[v] w fun e w' => ∃ g cap, e = .returned (.slice (some ⟨g, 0, none⟩) xs.length cap) ∧ OwI w.heap.size w' (.slice (some ⟨g, 0, none⟩) xs.length cap) xs ∧ Below w.heap.size w w' := by
  obtain ⟨i0, hi, hz0, hz1, hz2⟩ := info_parts infoI
  have H := hid h
  obtain ⟨a, cap, rfl, _⟩ := h
  go_enter Try.func68, Try.ntmps68
  go_wp2_with (at_builtin; refine wpList_append_sl _ rfl _ _ 24 rfl w.heap.size 2 i0 .i64 0 8 Try.underlying24 hi hz0 hz1 hz2 (by decide) w.heap.size 0 0 [] rfl rfl (ow_new _ _ _ w (Nat.le_refl _)) _ xs rfl (H.out.later (bmore (Below.refl _ _) _)) ?c1 ?c2 ?_)
  case c1 => simp; omega
  case c2 => simp
  intro g cap' w' ho hg hlt
  have hb := (bmore (Below.refl _ w) (.cells #[] 2)).trans (below_of_grown hg (by simp) (fun j e => by cases e; exact Nat.le_refl _))
  have HO := hid ho
  have HB := hid hb
  clear ho hb hg
  go_wp2
  go_ret
  exact ⟨_, _, rfl, HO.out, HB.out⟩
theorem zeros_calls (n : Nat) (w : World) (hlen : n ≤ 1048576) :
    Calls Try.prog 66 #[.int .i64 (n : Int)] w fun e w' => e = .returned (.slice (some ⟨w.heap.size, 0, none⟩) n n) ∧ OwI w.heap.size w' (.slice (some ⟨w.heap.size, 0, none⟩) n n) (List.replicate n 0) ∧ Below w.heap.size w w' := by
  obtain ⟨i0, hi, hz0, hz1, hz2⟩ := info_parts infoI
  go_enter Try.func66, Try.ntmps66
  go_wp2_with (at_make; refine wpList_make_full _ rfl _ _ 24 rfl w.heap.size 2 i0 (.int .i64 0) 1 Try.underlying24 hi hz0 hz1 .i64 .i64 _ _ n rfl rfl rfl rfl ?c1 ?c2 ?c3 ?_)
  case c1 => rw [hz2]; omega
  case c2 => unfold maxLen; omega
  case c3 => exact Nat.le_refl _
  intro w1 hown hgrow
  rw [made_zero] at hown
  have HO : Hid (OwI w.heap.size w1 (.slice (some ⟨w.heap.size, 0, none⟩) n n) (List.replicate n 0)) := by
    show World.ownsRow _ _ _ _ _ (List.replicate n (0 : Int)).length _
    rw [List.length_replicate]; exact hown
  have HB := hid ((Below.refl _ _).grown hgrow (Nat.le_refl _) (fun k h => by cases h) : Below w.heap.size w w1)
  clear hgrow hown
  go_wp2
  go_ret
  exact ⟨rfl, HO.out, HB.out⟩
end Go.Proofs.Ytodfkicmmcfkaaa.IntA
