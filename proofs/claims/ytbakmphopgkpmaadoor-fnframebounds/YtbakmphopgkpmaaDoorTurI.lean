/- The program's table of turns: what lies in it, and what is found there by a turn's name. Condition: the table holds what its own text lays. -/
import Derived.Test.YtbakmphopgkpmaaDoorGb
import Derived.Test.YtbakmphopgkpmaaDoorGa
import Derived.Deep.MidRow
namespace Go.Proofs.YtbakmphopgkpmaaDoor.TurI
open Go.ChangeShapes Go.WideShapes Go.ChangeAt Go.RowKit Go.Proofs.YtbakmphopgkpmaaDoor.Num Go.Proofs.YtbakmphopgkpmaaDoor.Sli Go.Proofs.YtbakmphopgkpmaaDoor.Samp Go.Proofs.YtbakmphopgkpmaaDoor.Blk Go.Proofs.YtbakmphopgkpmaaDoor.TurM

/-- The cells of the table. -/
def tabC : Array Value := (rowL.flatMap fun r => [Value.int .i64 r.1, Value.int .i64 r.2.1, Value.int .i64 r.2.2.1, Value.int .i64 r.2.2.2]).toArray
/-- The table lies in its block. -/
def Tab (w : World) : Prop := ∃ t, Blk w 0 tabC t
theorem Tab.later {w w' : World} (h : Tab w) (hb : Below w.heap.size w w') : Tab w' := by obtain ⟨t, h⟩ := h; exact ⟨t, h.later hb⟩
theorem rowIx (k : Nat) (hk : k < 14) (w : World) : (Instr.index 134 (.agg tabC) (.int .i64 k)).run Tryd.prog w = .ok (.agg #[.int .i64 (rS k), .int .i64 (rN k), .int .i64 (rP k), .int .i64 (rU k)]) w := by
  rcases k with _ | _ | _ | _ | _ | _ | _ | _ | _ | _ | _ | _ | _ | _ | k
  all_goals first | omega | kernel_rfl
theorem arrTab : Tryd.prog.underlying 134 = some (.array 14 133) := by kernel_rfl
theorem sizeTab : (Tryd.prog.info? 134).map (·.size) = some tabC.size := by kernel_rfl
theorem no_row {s n : Int} (h : ∀ j, j < 14 → ¬ (rS j = s ∧ rN j = n)) : tOk s n = false := by
  cases ht : tOk s n
  · rfl
  · obtain ⟨k, hk, e1, e2, _⟩ := ok_cases ht
    exact absurd ⟨e1.symm, e2.symm⟩ (h k hk)
/-- What the search keeps: the answer's block, the name's block. -/
structure KT (w : World) (R A : Nat) (s n : Int) (W : World) : Prop where
  r : Blk W R #[.int .i64 0, .int .i64 0] 85
  a : Blk W A #[.int .i64 s, .int .i64 n] 131
  b : Below w.heap.size w W
theorem KT.later {w : World} {R A : Nat} {s n : Int} {W W' : World} (h : KT w R A s n W) (hb : Below W.heap.size W W') : KT w R A s n W' := ⟨h.r.later hb, h.a.later hb, bthen h.b hb⟩

set_option maxHeartbeats 2000000 in
theorem turnOf_calls (s n : Int) (w : World) (hT : Tab w) :
    Calls Tryd.prog 91 #[.int .i64 s, .int .i64 n] w fun e w' => e = .returned (.tuple #[.agg #[.int .i64 (tA s n), .int .i64 (tB s n)], .int .i64 (tC s n)]) ∧ Below w.heap.size w w' := by
  have HS := hid (implSizeFault_calls s)
  rcases sz_03 s with hs | hs
  · obtain ⟨tt, hT⟩ := hT
    have HT := hid hT
    rw [hs] at HS
    have Hs := hid hs
    clear hT hs
    go_enter Tryd.func91, Tryd.ntmps91
    go_wp2_with (first | (go_at_call 83; refine (HS.out _).mono ?_; rintro e w' ⟨rfl, rfl⟩) | (refine wpList_load_row rfl 134 _ rfl 0 rfl tt tabC (0, 0) _ ((HT.out.alloc _).alloc _) arrTab rfl sizeTab ?_))
    go_loopw [20] (fun i wr => ∃ k : Nat, k ≤ 14 ∧ i = .int .i64 k ∧ Hid (∀ j, j < k → ¬ (rS j = s ∧ rN j = n)) ∧ Hid (KT w w.heap.size (w.heap.size + 1) s n wr)) (fun i _ => 14 - (intOf i).toNat)
    case atStart => exact ⟨0, by omega, rfl, fun j hj => by omega, (Blk.new w _ _).alloc _, by have := Blk.new (w.alloc (.cells #[.int .i64 0, .int .i64 0] 85)) #[.int .i64 s, .int .i64 n] 131; rwa [World.size_alloc] at this, bmore (bmore (Below.refl _ w) _) _⟩
    case round =>
      obtain ⟨k, hk, rfl, HN, HK⟩ := hrel
      by_cases hlt : k < 14
      · have hix := rowIx k hlt
        have HF : Hid (rS k = s → rN k = n → 0 = tC s n ∧ rP k = tA s n ∧ rU k = tB s n) := by
          rintro rfl rfl
          obtain ⟨h1, h2, h3⟩ := row_ok k hlt
          obtain ⟨g1, g2, g3⟩ := t_yes h1
          exact ⟨g1.symm, h2.symm.trans g2.symm, h3.symm.trans g3.symm⟩
        have HN' : Hid (¬ (rS k = s ∧ rN k = n) → ∀ j, j < k + 1 → ¬ (rS j = s ∧ rN j = n)) := by
          intro h j hj
          by_cases hjk : j = k
          · subst hjk; exact h
          · exact HN.out j (by omega)
        generalize rS k = s' at *
        generalize rN k = n' at *
        generalize rP k = p' at *
        generalize rU k = u' at *
        obtain ⟨c0, c1, f0, f1⟩ := HK.out.r.two
        obtain ⟨d0, d1, _, _⟩ := HK.out.a.two
        have l1 := HK.out.r.lt
        have l2 := HK.out.a.lt
        cases h1 : (s' == s)
        · have HN2 := hid (HN'.out (fun h => by simp at h1; exact h1 h.1))
          have HK2 := hid (HK.out.later (bmore (Below.refl _ _) (.cells #[.int .i64 s', .int .i64 n', .int .i64 p', .int .i64 u'] 133)))
          go_wp2
          go_roundw
          case rel => exact ⟨k + 1, by omega, by go_num, HN2, HK2⟩
          case measure => simp [intOf]; omega
        · cases h2 : (n' == n)
          · have HN2 := hid (HN'.out (fun h => by simp at h2; exact h2 h.2))
            have HK2 := hid (HK.out.later (bmore (Below.refl _ _) (.cells #[.int .i64 s', .int .i64 n', .int .i64 p', .int .i64 u'] 133)))
            go_wp2
            go_roundw
            case rel => exact ⟨k + 1, by omega, by go_num, HN2, HK2⟩
            case measure => simp [intOf]; omega
          · have HF2 := hid (HF.out (by simpa using h1) (by simpa using h2))
            go_wp2
            exact bodyPost_ret (v := .tuple #[.agg #[.int .i64 p', .int .i64 u'], .int .i64 0]) (by simp [results, Tryd.results91, go_sem, c0, c1, l1]) rfl ⟨by rw [← HF2.out.1, ← HF2.out.2.1, ← HF2.out.2.2], bmore (below_cell (below_cell HK.out.b (Nat.le_refl _) _ _) (Nat.le_refl _) _ _) _⟩
      · have he : k = 14 := by omega
        subst he
        have HE : Hid (3 = tC s n ∧ 0 = tA s n ∧ 0 = tB s n) := by
          obtain ⟨h1, h2, h3⟩ := t_no (no_row HN.out)
          exact ⟨h1.symm, h2.symm, h3.symm⟩
        obtain ⟨c0, c1, f0, f1⟩ := HK.out.r.two
        go_wp2
        exact bodyPost_ret (v := .tuple #[.agg #[.int .i64 0, .int .i64 0], .int .i64 3]) (by simp [results, Tryd.results91, go_sem, c0, c1]) rfl ⟨by rw [← HE.out.1, ← HE.out.2.1, ← HE.out.2.2], below_cell (below_cell HK.out.b (Nat.le_refl _) _ _) (Nat.le_refl _) _ _⟩
  · have H : Hid (3 = tC s n ∧ 0 = tA s n ∧ 0 = tB s n) := by
      have ht : tOk s n = false := decide_eq_false (by rw [hs]; omega)
      obtain ⟨h1, h2, h3⟩ := t_no ht
      exact ⟨h1.symm, h2.symm, h3.symm⟩
    rw [hs] at HS
    clear hs hT
    go_enter Tryd.func91, Tryd.ntmps91
    go_wp2_with (go_at_call 83; refine (HS.out _).mono ?_; rintro e w' ⟨rfl, rfl⟩)
    exact bodyPost_ret (v := .tuple #[.agg #[.int .i64 0, .int .i64 0], .int .i64 3]) (by simp [results, Tryd.results91, go_sem]) rfl ⟨by rw [← H.out.1, ← H.out.2.1, ← H.out.2.2], (Below.refl _ _).alloc (Nat.le_refl _) _⟩
end Go.Proofs.YtbakmphopgkpmaaDoor.TurI
