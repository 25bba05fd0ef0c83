/- IsWithin of the model. Conditions: lists of at most 1048576 numbers. -/
import Derived.Test.YtbakmphopgkpmaaDoorGb
import Derived.Test.YtbakmphopgkpmaaDoorNorm
import Derived.Test.YtbakmphopgkpmaaDoorLapS
import Derived.BigQuiet
namespace Go.Proofs.YtbakmphopgkpmaaDoor.BndW
open Go.ChangeShapes Go.WideShapes Go.ChangeAt Go.RowKit Go.Proofs.YtbakmphopgkpmaaDoor.Num Go.Proofs.YtbakmphopgkpmaaDoor.Sli Go.Proofs.YtbakmphopgkpmaaDoor.App Go.Proofs.YtbakmphopgkpmaaDoor.Div Go.Proofs.YtbakmphopgkpmaaDoor.Norm Go.Proofs.YtbakmphopgkpmaaDoor.Samp Go.Proofs.YtbakmphopgkpmaaDoor.SampF Go.Proofs.YtbakmphopgkpmaaDoor.Blk Go.Proofs.YtbakmphopgkpmaaDoor.TurM Go.Proofs.YtbakmphopgkpmaaDoor.HalM Go.Proofs.YtbakmphopgkpmaaDoor.LapM Go.Proofs.YtbakmphopgkpmaaDoor.LapN Go.Proofs.YtbakmphopgkpmaaDoor.IntL Go.Proofs.YtbakmphopgkpmaaDoor.IntA Go.Proofs.YtbakmphopgkpmaaDoor.LapS Go.Proofs.YtbakmphopgkpmaaDoor.BndM
/-- One number of three lists. -/
def wiE (x y z : Int) : Prop := topB x = true ∧ topB y = true ∧ absV (x - y) ≤ z
theorem wi_all {a b e : List Int} (h1 : a.length = b.length) (h2 : a.length = e.length) (h : ∀ i, i < a.length → wiE (a.getD i 0) (b.getD i 0) (e.getD i 0)) : wiB a b e = true :=
  decide_eq_true ⟨h1, h2, fun i hi => ⟨of_inB (h i hi).1, of_inB (h i hi).2.1, (h i hi).2.2⟩⟩
theorem wi_not {a b e : List Int} {i : Nat} (hi : i < a.length) (h : ¬ wiE (a.getD i 0) (b.getD i 0) (e.getD i 0)) : wiB a b e = false :=
  decide_eq_false (fun ⟨_, _, H⟩ => h ⟨inB_yes (H i hi).1.1 (H i hi).1.2, inB_yes (H i hi).2.1.1 (H i hi).2.1.2, (H i hi).2.2⟩)
theorem wi_len {a b e : List Int} (h : ¬ (a.length = b.length ∧ a.length = e.length)) : wiB a b e = false := decide_eq_false (fun ⟨h1, h2, _⟩ => h ⟨h1, h2⟩)
theorem nat_wi (x y : Int) (h1 : topB x = true) (h2 : topB y = true) : (-2199023255552 ≤ x - y ∧ x - y ≤ 2199023255552) := by
  have := of_inB h1; have := of_inB h2; omega
set_option maxRecDepth 100000 in
set_option maxHeartbeats 4000000 in
theorem within_some (b1 o1 k1 b2 o2 k2 b3 o3 k3 : Nat) (a b e : List Int) (n : Nat) (w : World) (ha : a.length = n) (hb : b.length = n) (he : e.length = n) (hn : n ≤ 1048576) (l1 : b1 < w.heap.size) (l2 : b2 < w.heap.size) (l3 : b3 < w.heap.size)
    (h1 : ∀ i, i < n → w.cell? ⟨b1, o1 + i, none⟩ = some (.int .i64 (a.getD i 0))) (h2 : ∀ i, i < n → w.cell? ⟨b2, o2 + i, none⟩ = some (.int .i64 (b.getD i 0))) (h3 : ∀ i, i < n → w.cell? ⟨b3, o3 + i, none⟩ = some (.int .i64 (e.getD i 0))) :
    Calls Tryd.prog 27 #[.slice (some ⟨b1, o1, none⟩) n k1, .slice (some ⟨b2, o2, none⟩) n k2, .slice (some ⟨b3, o3, none⟩) n k3] w fun r w' => r = .returned (.bool (wiB a b e)) ∧ Below w.heap.size w w' := by
  have HY : Hid ((∀ i, i < n → wiE (a.getD i 0) (b.getD i 0) (e.getD i 0)) → wiB a b e = true) := fun h => wi_all (by omega) (by omega) (fun i hi => h i (by omega))
  have HN : Hid (∀ i, i < n → ¬ wiE (a.getD i 0) (b.getD i 0) (e.getD i 0) → wiB a b e = false) := fun i hi h => wi_not (by omega) h
  have H1 := hid h1
  have H2 := hid h2
  have H3 := hid h3
  clear h1 h2 h3 ha hb he
  generalize wiB a b e = r at *
  go_enter Tryd.func27, Tryd.ntmps27
  go_wp2
  go_loopw [7] (fun i wr => ∃ k : Nat, k ≤ n ∧ i = .int .i64 k ∧ Hid (∀ j, j < k → wiE (a.getD j 0) (b.getD j 0) (e.getD j 0)) ∧ Hid (Below w.heap.size w wr)) (fun i _ => n - (intOf i).toNat)
  case atStart => exact ⟨0, Nat.zero_le _, rfl, fun j hj => by omega, Below.refl _ _⟩
  case round =>
    obtain ⟨k, hk, rfl, hall, HB⟩ := hrel
    by_cases hlt : k < n
    · have c1 := (HB.out.cell (p := ⟨b1, o1 + k, none⟩) l1).trans (H1.out k hlt)
      have c2 := (HB.out.cell (p := ⟨b2, o2 + k, none⟩) l2).trans (H2.out k hlt)
      have c3 := (HB.out.cell (p := ⟨b3, o3 + k, none⟩) l3).trans (H3.out k hlt)
      have HD := fun m => hid (below_drewN HB.out m)
      have HNk := hid (HN.out k hlt)
      have HAk : Hid (wiE (a.getD k 0) (b.getD k 0) (e.getD k 0) → ∀ j, j < k + 1 → wiE (a.getD j 0) (b.getD j 0) (e.getD j 0)) := by
        intro h j hj
        by_cases q : j = k
        · rw [q]; exact h
        · exact hall.out j (by omega)
      have hkI : (k : Int) < (n : Int) := by omega
      clear hall HN HY H1 H2 H3
      generalize a.getD k 0 = x at *
      generalize b.getD k 0 = y at *
      generalize e.getD k 0 = z at *
      have HX := hid (fun W => l1Top_calls x W)
      cases hx : topB x
      · have HR := hid (HNk.out (fun h => by rw [h.1] at hx; cases hx))
        rw [hx] at HX
        clear HNk HAk hx
        go_wp2_with fail
        go_quiet ((go_at_call 75; exact Calls.quiet_of_same (HX.out _)))
        go_wp2
        go_ret
        exact ⟨by rw [HR.out]; rfl, (HD _).out⟩
      · rw [hx] at HX
        have HYc := hid (fun W => l1Top_calls y W)
        cases hy : topB y
        · have HR := hid (HNk.out (fun h => by rw [h.2.1] at hy; cases hy))
          rw [hy] at HYc
          clear HNk HAk hx hy
          go_wp2_with fail
          go_quiet ((first | (go_at_call 75; exact Calls.quiet_of_same (HX.out _)) | (go_at_call 75; exact Calls.quiet_of_same (HYc.out _))))
          go_wp2
          go_ret
          exact ⟨by rw [HR.out]; rfl, (HD _).out⟩
        · rw [hy] at HYc
          have hxy := nat_wi x y hx hy
          have k1 : wrap64 (x - y) = x - y := wrap_of (by omega) (by omega)
          have HA := hid (fun W => l1Abs_calls (x - y) W (by omega) (by omega))
          by_cases hz : absV (x - y) ≤ z
          · have HR := hid (HAk.out ⟨hx, hy, hz⟩)
            clear HNk HAk hx hy
            have hz' : ¬ z < absV (x - y) := by omega
            generalize absV (x - y) = d at *
            go_wp2_with fail
            go_quiet ((first | (go_at_call 75; exact Calls.quiet_of_same (HX.out _)) | (go_at_call 75; exact Calls.quiet_of_same (HYc.out _)) | (go_at_call 76; exact Calls.quiet_of_same (HA.out _))))
            go_wp2
            go_roundw
            case rel => exact ⟨k + 1, by omega, by go_num, HR.out, (HD _).out⟩
            case measure => simp [intOf]; omega
          · have HR := hid (HNk.out (fun h => hz h.2.2))
            clear HNk HAk hx hy
            have hz' : z < absV (x - y) := by omega
            generalize absV (x - y) = d at *
            go_wp2_with fail
            go_quiet ((first | (go_at_call 75; exact Calls.quiet_of_same (HX.out _)) | (go_at_call 75; exact Calls.quiet_of_same (HYc.out _)) | (go_at_call 76; exact Calls.quiet_of_same (HA.out _))))
            go_wp2
            go_ret
            exact ⟨by rw [HR.out]; rfl, (HD _).out⟩
    · have hkn : k = n := by omega
      subst hkn
      have HR := hid (HY.out hall.out)
      clear hall HN HY H1 H2 H3
      go_wp2
      go_ret
      exact ⟨by rw [HR.out]; rfl, HB.out⟩
theorem within_none (a1 a2 a3 : Option Addr) (c1 c2 c3 : Nat) (w : World) :
    Calls Tryd.prog 27 #[.slice a1 0 c1, .slice a2 0 c2, .slice a3 0 c3] w fun r w' => r = .returned (.bool true) ∧ w' = w := by
  go_enter Tryd.func27, Tryd.ntmps27
  go_wp2
  go_loop [7] (fun i => i = .int .i64 0) (fun _ => 0)
  case atStart => exact rfl
  case round =>
    obtain rfl := hrel
    go_wp2
    go_ret
    exact ⟨rfl, rfl⟩
theorem specIsWithin_calls (v1 v2 v3 : Value) (a b e : List Int) (w : World) (h1 : Sl .i64 w v1 a) (h2 : Sl .i64 w v2 b) (h3 : Sl .i64 w v3 e) (m1 : a.length ≤ 1048576) (m2 : b.length ≤ 1048576) (m3 : e.length ≤ 1048576) :
    Calls Tryd.prog 27 #[v1, v2, v3] w fun r w' => r = .returned (.bool (wiB a b e)) ∧ Below w.heap.size w w' := by
  obtain ⟨a1, c1, rfl, hc1⟩ := h1
  obtain ⟨a2, c2, rfl, hc2⟩ := h2
  obtain ⟨a3, c3, rfl, hc3⟩ := h3
  by_cases hl : a.length = b.length ∧ a.length = e.length
  · have hb : b.length = a.length := hl.1.symm
    have he : e.length = a.length := hl.2.symm
    rw [hb, he]
    by_cases hx : a = []
    · subst hx
      have hb' : b = [] := List.eq_nil_of_length_eq_zero hb
      have he' : e = [] := List.eq_nil_of_length_eq_zero he
      subst hb' he'
      refine (within_none a1 a2 a3 c1 c2 c3 w).mono ?_
      rintro r w' ⟨rfl, rfl⟩
      exact ⟨by rw [show wiB [] [] [] = true from wi_all rfl rfl (fun i hi => absurd hi (Nat.not_lt_zero _))], Below.refl _ _⟩
    · have hpos : 0 < a.length := List.length_pos_iff.2 hx
      obtain ⟨b1, o1, rfl, l1, q1⟩ := hc1 hx
      obtain ⟨b2, o2, rfl, l2, q2⟩ := hc2 (by intro q; rw [q] at hb; simp at hb; omega)
      obtain ⟨b3, o3, rfl, l3, q3⟩ := hc3 (by intro q; rw [q] at he; simp at he; omega)
      rw [hb] at q2
      rw [he] at q3
      exact within_some b1 o1 c1 b2 o2 c2 b3 o3 c3 a b e a.length w rfl hb he m1 l1 l2 l3 q1 q2 q3
  · rw [wi_len hl]
    have hl2 : ((a.length : Int) != (b.length : Int)) = true ∨ (((a.length : Int) != (b.length : Int)) = false ∧ ((a.length : Int) != (e.length : Int)) = true) := by
      simp only [bne_iff_ne, bne_eq_false_iff_eq, ne_eq]; omega
    clear hl hc1 hc2 hc3
    rcases hl2 with g1 | ⟨g1, g2⟩
    all_goals
      go_enter Tryd.func27, Tryd.ntmps27
      go_wp2
      go_ret
      exact ⟨rfl, Below.refl _ _⟩
end Go.Proofs.YtbakmphopgkpmaaDoor.BndW
