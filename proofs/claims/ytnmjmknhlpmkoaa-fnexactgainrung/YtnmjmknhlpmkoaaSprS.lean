/- The model's coefficients of a list, and the list of coefficients. Conditions: 1, 2, 4, 8 or 16 numbers, not too great. -/
import Derived.Test.YtnmjmknhlpmkoaaUniS
import Derived.Maps.AppendAt
namespace Go.Proofs.Ytnmjmknhlpmkoaa.SprS
open Go.ChangeShapes Go.WideShapes Go.ChangeAt Go.RowKit Go.Proofs.Ytnmjmknhlpmkoaa.Num Go.Proofs.Ytnmjmknhlpmkoaa.Sli Go.Proofs.Ytnmjmknhlpmkoaa.App Go.Proofs.Ytnmjmknhlpmkoaa.Div Go.Proofs.Ytnmjmknhlpmkoaa.TurM Go.Proofs.Ytnmjmknhlpmkoaa.HalM Go.Proofs.Ytnmjmknhlpmkoaa.IntL Go.Proofs.Ytnmjmknhlpmkoaa.IntA Go.Proofs.Ytnmjmknhlpmkoaa.HalS Go.Proofs.Ytnmjmknhlpmkoaa.UniS

theorem le_bS : ∀ (k : Nat) {M : Int}, 0 ≤ M → M ≤ bS k M
  | 0, _, _ => Int.le_refl _
  | k + 1, M, h => Int.le_trans (show M ≤ 3 * M + 3 by omega) (le_bS k (by omega))
theorem own_succ {w : World} {base : Nat} {e : TypeId} {v : Value} {n : Nat} {xs : List Value} (h : w.ownsRow base e 1 v (n + 1) xs) : ∃ g c, v = .slice (some ⟨g, 0, none⟩) (n + 1) c := by
  rcases h.2 with ⟨_, h0⟩ | ⟨g, cap, _, rfl, _⟩
  · omega
  · exact ⟨g, cap, rfl⟩
/-- Two numbers are appended. -/
theorem app_two {base : Nat} {W : World} {u : Value} {xs : List Int} {x y : Int} (ty : TypeId) (h : OwI base W u xs) (hbase : base ≤ W.heap.size) (hlen : xs.length ≤ 100000) :
    ∃ gc cc w1, (Builtin.append_ #[44, 44] ty #[u, .slice (some ⟨W.heap.size, 0, none⟩) 2 2]).run Try.prog (W.alloc (.cells #[.int .i64 x, .int .i64 y] 2)) = .ok (.slice (some ⟨gc, 0, none⟩) (xs.length + 2) cc) w1 ∧
      OwI base w1 (.slice (some ⟨gc, 0, none⟩) (xs.length + 2) cc) (xs ++ [x, y]) ∧ (W.alloc (.cells #[.int .i64 x, .int .i64 y] 2)).grownBy w1 u.ownBlock ∧ (u.ownBlock = some gc ∨ gc = W.heap.size + 1) := by
  obtain ⟨i0, hi, hz0, hz1, hz2⟩ := info_parts infoI
  have h' : W.ownsRow base 2 1 u xs.length (xs.map (Value.int .i64)) := h
  obtain ⟨v', w', hrun, hown, hg, _, hbl⟩ := run_append_own_at (W.alloc (.cells #[.int .i64 x, .int .i64 y] 2)) base 44 ty 2 i0 (.int .i64 0) 1 8 Try.underlying44 hi hz0 hz1 hz2 rfl (by decide) u xs.length (xs.map (Value.int .i64)) (h'.alloc _) ⟨W.heap.size, 0, none⟩ 2 2 [.int .i64 x, .int .i64 y] rfl
    (by intro j z hj; match j, hj with
      | 0, hj => simp at hj; subst hj; simp [Addr.add]
      | 1, hj => simp at hj; subst hj; simp [Addr.add]
      | j + 2, hj => simp at hj) (by simp [Value.oneCell']) (by rw [show maxLen = 9223372036854775807 by decide]; omega) (by omega) (by simp; omega)
  obtain ⟨gc, cc, rfl⟩ := own_succ hown
  refine ⟨gc, cc, w', hrun, ?_, hg, ?_⟩
  rotate_left
  · rcases hbl with h1 | h1
    · left; rw [← h1]; rfl
    · right; simpa [Value.ownBlock] using h1
  show w'.ownsRow base 2 1 _ (xs ++ [x, y]).length ((xs ++ [x, y]).map (Value.int .i64))
  rw [List.length_append, List.map_append]
  exact hown
/-- Two lists of m numbers that are read, and one that grows. -/
structure SK (w : World) (m ga ca gb cb n go co : Nat) (A B O : List Int) (W : World) : Prop where
  a : OwI w.heap.size W (.slice (some ⟨ga, 0, none⟩) m ca) A
  b : OwI w.heap.size W (.slice (some ⟨gb, 0, none⟩) m cb) B
  o : OwI w.heap.size W (.slice (some ⟨go, 0, none⟩) n co) O
  na : ga ≠ go
  nb : gb ≠ go
  l : Below w.heap.size w W
theorem SK.drew {w : World} {m ga ca gb cb n go co : Nat} {A B O : List Int} {W : World} (h : SK w m ga ca gb cb n go co A B O W) : SK w m ga ca gb cb n go co A B O W.drew := ⟨h.a, h.b, h.o, h.na, h.nb, h.l.drew⟩
theorem inter_step (a b : List Int) (k : Nat) : mkL (2 * (k + 1)) (inE a b) = mkL (2 * k) (inE a b) ++ [a.getD k 0, b.getD k 0] := by
  rw [show 2 * (k + 1) = 2 * k + 1 + 1 by omega, mkL_succ, mkL_succ, List.append_assoc]
  have e1 : inE a b (2 * k) = a.getD k 0 := by unfold inE; rw [if_pos (by omega), show 2 * k / 2 = k by omega]
  have e2 : inE a b (2 * k + 1) = b.getD k 0 := by unfold inE; rw [if_neg (by omega), show (2 * k + 1) / 2 = k by omega]
  rw [e1, e2]; rfl

end Go.Proofs.Ytnmjmknhlpmkoaa.SprS
