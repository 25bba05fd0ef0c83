/- The program's heap of rests in memory: what lies in it, who comes first, an exchange, one more, one less; its methods through an interface. Condition: places that there are. -/
import Derived.Test.YtbbejjlgfekipaaShaG
import Derived.Test.YtbbejjlgfekipaaBkI
import Derived.BigRegion
import Derived.BigQuiet
import Derived.Deep.RegionHeld3
namespace Go.Proofs.Ytbbejjlgfekipaa.ShaH
open Go.ChangeShapes Go.WideShapes Go.ChangeAt Go.RowKit Go.Proofs.Ytbbejjlgfekipaa.Num Go.Proofs.Ytbbejjlgfekipaa.Sli Go.Proofs.Ytbbejjlgfekipaa.App Go.Proofs.Ytbbejjlgfekipaa.Blk Go.Proofs.Ytbbejjlgfekipaa.HalM Go.Proofs.Ytbbejjlgfekipaa.ShaG Go.Proofs.Ytbbejjlgfekipaa.IntL Go.Proofs.Ytbbejjlgfekipaa.IntA Go.Proofs.Ytbbejjlgfekipaa.BkI

/-- What lies in the cells, one behind the other. -/
def flat : List B2 → List Value
  | [] => []
  | s :: t => .int .i64 s.1 :: .int .i64 s.2 :: flat t
theorem flat_len (ls : List B2) : (flat ls).length = ls.length * 2 := by
  induction ls with
  | nil => rfl
  | cons s t ih => simp [flat, ih]; omega
theorem flat_append (ls ms : List B2) : flat (ls ++ ms) = flat ls ++ flat ms := by
  induction ls with
  | nil => rfl
  | cons s t ih => simp [flat, ih]
theorem flat_get (ls : List B2) (i : Nat) (hi : i < ls.length) :
    (flat ls)[i * 2]? = some (.int .i64 (at2 ls i).1) ∧ (flat ls)[i * 2 + 1]? = some (.int .i64 (at2 ls i).2) := by
  unfold at2
  induction ls generalizing i with
  | nil => simp at hi
  | cons s t ih =>
    cases i with
    | zero => simp [flat]
    | succ i =>
      obtain ⟨h1, h2⟩ := ih i (by simpa using hi)
      rw [show (i + 1) * 2 = i * 2 + 1 + 1 by omega]
      simp only [flat, List.getElem?_cons_succ, List.getD_cons_succ]
      exact ⟨h1, h2⟩
theorem flat_set (ls : List B2) (i : Nat) (a b : Int) (hi : i < ls.length) : ((flat ls).set (i * 2) (.int .i64 a)).set (i * 2 + 1) (.int .i64 b) = flat (ls.set i (a, b)) := by
  induction ls generalizing i with
  | nil => simp at hi
  | cons s t ih =>
    cases i with
    | zero => simp [flat]
    | succ i =>
      rw [show (i + 1) * 2 = i * 2 + 1 + 1 by omega]
      simp only [flat, List.set_cons_succ, ← ih i (by simpa using hi)]
theorem flat_take (ls : List B2) (i : Nat) : flat (ls.take i) = (flat ls).take (i * 2) := by
  induction ls generalizing i with
  | nil => simp [flat]
  | cons s t ih =>
    cases i with
    | zero => simp [flat]
    | succ i =>
      rw [show (i + 1) * 2 = i * 2 + 1 + 1 by omega]
      simp only [flat, List.take_succ_cons, ih]
/-- An owned list of rests. -/
def OwR (base : Nat) (w : World) (v : Value) (ls : List B2) : Prop := w.ownsRow base 72 2 v ls.length (flat ls)
theorem OwR.set2 {base g n cap : Nat} {w : World} {ls : List B2} (h : OwR base w (.slice (some ⟨g, 0, none⟩) n cap) ls) (hn : n = ls.length) (i : Nat) (hi : i < n) (x : B2) :
    OwR base ((w.setCell ⟨g, i * 2, none⟩ (.int .i64 x.1)).setCell ⟨g, i * 2 + 1, none⟩ (.int .i64 x.2)) (.slice (some ⟨g, 0, none⟩) n cap) (ls.set i x) ∧
    w.grownBy ((w.setCell ⟨g, i * 2, none⟩ (.int .i64 x.1)).setCell ⟨g, i * 2 + 1, none⟩ (.int .i64 x.2)) (some g) := by
  subst hn
  obtain ⟨h1, g1⟩ := World.ownsRow.stored h (i * 2) (.int .i64 x.1)
  obtain ⟨h2, g2⟩ := h1.stored (i * 2 + 1) (.int .i64 x.2)
  rw [flat_set ls i x.1 x.2 hi] at h2
  refine ⟨?_, grown_same g1 g2⟩
  show World.ownsRow _ base 72 2 _ (ls.set i x).length (flat (ls.set i x))
  rw [List.length_set]
  exact h2
theorem OwR.at {base g n cap : Nat} {w : World} {ls : List B2} (h : OwR base w (.slice (some ⟨g, 0, none⟩) n cap) ls) : g < w.heap.size ∧ base ≤ g ∧ n = ls.length ∧ n ≤ cap ∧ ∀ i, i < ls.length →
    w.cell? ⟨g, i * 2, none⟩ = some (.int .i64 (at2 ls i).1) ∧ w.cell? ⟨g, i * 2 + 1, none⟩ = some (.int .i64 (at2 ls i).2) := by
  rcases h.2 with ⟨h0, _⟩ | ⟨g', cap', cur, hv, hb, hg, hle, hc, hs, ht⟩
  · cases h0
  · cases hv
    refine ⟨(Array.getElem?_eq_some_iff.1 hg).1, hb, rfl, hle, fun i hi => ?_⟩
    have key : ∀ j x, j < ls.length * 2 → (flat ls)[j]? = some x → w.cell? ⟨g, j, none⟩ = some x := by
      intro j x hj hx
      rw [← ht, List.getElem?_take_of_lt hj, Array.getElem?_toList] at hx
      simp [World.cell?, hg, hx]
    obtain ⟨h1, h2⟩ := flat_get ls i hi
    exact ⟨key _ _ (by omega) h1, key _ _ (by omega) h2⟩
theorem OwR.later {base : Nat} {w w' : World} {v : Value} {ls : List B2} (h : OwR base w v ls) (hb : Below w.heap.size w w') : OwR base w' v ls :=
  World.ownsRow.kept (row := none) h ⟨hb.os, hb.tape, hb.output, hb.size, fun j hj _ => hb.block j hj⟩ (by cases v.ownBlock <;> simp)
theorem OwR.other {base g n cap : Nat} {w : World} {ls : List B2} (h : OwR base w (.slice (some ⟨g, 0, none⟩) n cap) ls) {b : Nat} (hne : b ≠ g) (i : Nat) (v : Value) : OwR base (w.setCell ⟨b, i, none⟩ v) (.slice (some ⟨g, 0, none⟩) n cap) ls := by
  have h' : w.ownsRow base 72 2 (.slice (some ⟨g, 0, none⟩) n cap) ls.length (flat ls) := h
  exact h'.kept (grown_set w b i v) (.inr (fun e => hne (Option.some.inj e).symm))
/-- The heap: its box and its row. -/
structure HP (base b g cap : Nat) (R : List B2) (W : World) : Prop where
  x : Blk W b #[.slice (some ⟨g, 0, none⟩) R.length cap] 67
  o : OwR base W (.slice (some ⟨g, 0, none⟩) R.length cap) R
  n : g ≠ b
  hb : base ≤ b
theorem HP.later {base b g cap : Nat} {R : List B2} {W W' : World} (h : HP base b g cap R W) (hb : Below W.heap.size W W') : HP base b g cap R W' := ⟨h.x.later hb, h.o.later hb, h.n, h.hb⟩
theorem HP.sw {base b g cap : Nat} {R : List B2} {W : World} (h : HP base b g cap R W) (i j : Nat) (hi : i < R.length) (hj : j < R.length) :
    HP base b g cap (sw R i j) ((((W.setCell ⟨g, i * 2, none⟩ (.int .i64 (at2 R j).1)).setCell ⟨g, i * 2 + 1, none⟩ (.int .i64 (at2 R j).2)).setCell ⟨g, j * 2, none⟩ (.int .i64 (at2 R i).1)).setCell ⟨g, j * 2 + 1, none⟩ (.int .i64 (at2 R i).2)) ∧
    Below base W ((((W.setCell ⟨g, i * 2, none⟩ (.int .i64 (at2 R j).1)).setCell ⟨g, i * 2 + 1, none⟩ (.int .i64 (at2 R j).2)).setCell ⟨g, j * 2, none⟩ (.int .i64 (at2 R i).1)).setCell ⟨g, j * 2 + 1, none⟩ (.int .i64 (at2 R i).2)) := by
  obtain ⟨_, hbg, _, _, _⟩ := h.o.at
  obtain ⟨h1, g1⟩ := h.o.set2 rfl i hi (at2 R j)
  have hl : R.length = (R.set i (at2 R j)).length := by rw [List.length_set]
  obtain ⟨h2, g2⟩ := h1.set2 hl j hj (at2 R i)
  have hlw : (ShaG.sw R i j).length = R.length := sw_len R i j
  refine ⟨⟨?_, ?_, h.n, h.hb⟩, ?_⟩
  · rw [hlw]
    exact ((((h.x.other h.n _ _).other h.n _ _).other h.n _ _).other h.n _ _)
  · rw [hlw]; exact h2
  · exact below_cell (below_cell (below_cell (below_cell (Below.refl _ _) hbg _ _) hbg _ _) hbg _ _) hbg _ _
abbrev IB (b : Nat) : Value := .iface 65 (.pointer (some ⟨b, 0, none⟩))
section
variable {base b g cap : Nat} {R : List B2} {W : World}
theorem HP.cell (h : HP base b g cap R W) : W.cell? ⟨b, 0, none⟩ = some (.slice (some ⟨g, 0, none⟩) R.length cap) := h.x.cell 0
theorem met_len (h : HP base b g cap R W) : (method 200 65 (.pointer (some ⟨b, 0, none⟩)) "Len").run Try.prog W = .ok (72, .slice (some ⟨g, 0, none⟩) R.length cap) W := by
  have c0 := h.cell
  rw [show (method 200 65 (.pointer (some ⟨b, 0, none⟩)) "Len").run Try.prog W = ((loadVar 67 ⟨b, 0, none⟩) >>= fun v => (pure (72, v) : Sem (FuncId × Value))).run Try.prog W by kernel_rfl]
  simp [go_sem, c0]
theorem met_less (h : HP base b g cap R W) : (method 200 65 (.pointer (some ⟨b, 0, none⟩)) "Less").run Try.prog W = .ok (73, .slice (some ⟨g, 0, none⟩) R.length cap) W := by
  have c0 := h.cell
  rw [show (method 200 65 (.pointer (some ⟨b, 0, none⟩)) "Less").run Try.prog W = ((loadVar 67 ⟨b, 0, none⟩) >>= fun v => (pure (73, v) : Sem (FuncId × Value))).run Try.prog W by kernel_rfl]
  simp [go_sem, c0]
theorem met_swap (h : HP base b g cap R W) : (method 200 65 (.pointer (some ⟨b, 0, none⟩)) "Swap").run Try.prog W = .ok (76, .slice (some ⟨g, 0, none⟩) R.length cap) W := by
  have c0 := h.cell
  rw [show (method 200 65 (.pointer (some ⟨b, 0, none⟩)) "Swap").run Try.prog W = ((loadVar 67 ⟨b, 0, none⟩) >>= fun v => (pure (76, v) : Sem (FuncId × Value))).run Try.prog W by kernel_rfl]
  simp [go_sem, c0]
theorem met_push (b : Nat) (W : World) : (method 200 65 (.pointer (some ⟨b, 0, none⟩)) "Push").run Try.prog W = .ok (75, .pointer (some ⟨b, 0, none⟩)) W := by kernel_rfl
theorem met_pop (b : Nat) (W : World) : (method 200 65 (.pointer (some ⟨b, 0, none⟩)) "Pop").run Try.prog W = .ok (74, .pointer (some ⟨b, 0, none⟩)) W := by kernel_rfl
end
theorem len_calls (g cap n : Nat) (W : World) : Calls Try.prog 72 #[.slice (some ⟨g, 0, none⟩) n cap] W fun e w' => e = .returned (.int .i64 (n : Int)) ∧ w' = W := by
  go_enter Try.func72, Try.ntmps72
  go_wp2
  go_ret
  exact ⟨rfl, rfl⟩
set_option maxHeartbeats 2000000 in
theorem less_calls {base b g cap : Nat} {R : List B2} {W : World} (h : HP base b g cap R W) (i j : Nat) (hi : i < R.length) (hj : j < R.length) :
    Calls Try.prog 73 #[.slice (some ⟨g, 0, none⟩) R.length cap, .int .i64 (i : Int), .int .i64 (j : Int)] W fun e w' => e = .returned (.bool (bfr (at2 R i) (at2 R j))) ∧ Below W.heap.size W w' := by
  obtain ⟨hlt, hbg, _, _, hc⟩ := h.o.at
  obtain ⟨c1, c2⟩ := hc i hi
  obtain ⟨d1, d2⟩ := hc j hj
  have hiI : (i : Int) < (R.length : Int) := by omega
  have hjI : (j : Int) < (R.length : Int) := by omega
  clear hc h hbg
  have H : Hid (bfr (at2 R i) (at2 R j) = if (at2 R i).2 = (at2 R j).2 then decide ((at2 R i).1 < (at2 R j).1) else decide ((at2 R j).2 < (at2 R i).2)) := rfl
  generalize bfr (at2 R i) (at2 R j) = res at *
  generalize (at2 R i).1 = p at *
  generalize (at2 R i).2 = x at *
  generalize (at2 R j).1 = q at *
  generalize (at2 R j).2 = y at *
  have HB := hid (Below.refl W.heap.size W).drew
  by_cases hxy : x = y
  · subst hxy
    have H2 := hid (H.out.trans (if_pos rfl))
    clear H
    go_enter Try.func73, Try.ntmps73
    go_wp2_with fail
    go_region
    go_wp2_with fail
    go_region
    go_wp2
    go_ret
    exact ⟨by rw [H2.out]; rfl, by first | exact HB.out | exact HB.out.drew⟩
  · have H2 := hid (H.out.trans (if_neg hxy))
    have hne : (x == y) = false := by simpa using hxy
    clear H
    go_enter Try.func73, Try.ntmps73
    go_wp2_with fail
    go_region
    go_wp2_with fail
    go_region
    go_wp2
    go_ret
    exact ⟨by rw [H2.out]; rfl, by first | exact HB.out | exact HB.out.drew⟩
end Go.Proofs.Ytbbejjlgfekipaa.ShaH
