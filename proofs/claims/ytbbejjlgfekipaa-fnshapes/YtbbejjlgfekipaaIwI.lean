/- IsWithin of the program. Conditions: lists of at most 1048576 numbers. -/
import Derived.Test.YtbbejjlgfekipaaBndW
import Derived.Test.YtbbejjlgfekipaaBkI
import Derived.BigQuiet
namespace Go.Proofs.Ytbbejjlgfekipaa.IwI
open Go.ChangeShapes Go.WideShapes Go.ChangeAt Go.RowKit Go.Proofs.Ytbbejjlgfekipaa.Num Go.Proofs.Ytbbejjlgfekipaa.Sli Go.Proofs.Ytbbejjlgfekipaa.Div Go.Proofs.Ytbbejjlgfekipaa.Samp Go.Proofs.Ytbbejjlgfekipaa.HalM Go.Proofs.Ytbbejjlgfekipaa.BndM Go.Proofs.Ytbbejjlgfekipaa.BndW Go.Proofs.Ytbbejjlgfekipaa.BkI

theorem all_at {P : Int → Bool} {l : List Int} (h : l.all P = true) {i : Nat} (hi : i < l.length) : P (l.getD i 0) = true := by
  rw [List.getD_eq_getElem?_getD, List.getElem?_eq_getElem hi, Option.getD_some]
  exact List.all_eq_true.1 h _ (List.getElem_mem hi)
theorem all_no {P : Int → Bool} {l : List Int} (h : l.all P = false) : ∃ i, i < l.length ∧ P (l.getD i 0) = false := by
  rw [List.all_eq_false] at h
  obtain ⟨x, hx, hp⟩ := h
  obtain ⟨i, hi, rfl⟩ := List.getElem_of_mem hx
  refine ⟨i, hi, ?_⟩
  rw [List.getD_eq_getElem?_getD, List.getElem?_eq_getElem hi, Option.getD_some]
  simpa using hp
set_option maxRecDepth 100000 in
set_option maxHeartbeats 4000000 in
theorem iw_some (b1 o1 k1 b2 o2 k2 b3 o3 k3 : Nat) (a b e : List Int) (n : Nat) (w : World) (hn : n ≤ 1048576) (l1 : b1 < w.heap.size) (l2 : b2 < w.heap.size) (l3 : b3 < w.heap.size)
    (h1 : ∀ i, i < n → w.cell? ⟨b1, o1 + i, none⟩ = some (.int .i64 (a.getD i 0))) (h2 : ∀ i, i < n → w.cell? ⟨b2, o2 + i, none⟩ = some (.int .i64 (b.getD i 0))) (h3 : ∀ i, i < n → w.cell? ⟨b3, o3 + i, none⟩ = some (.int .i64 (e.getD i 0)))
    (HX : Hid (Calls Try.prog 32 #[.slice (some ⟨b1, o1, none⟩) n k1, .int .i64 (-1099511627776), .int .i64 1099511627776] w fun r w' => r = .returned (.bool true) ∧ w' = w))
    (HY : Hid (Calls Try.prog 32 #[.slice (some ⟨b2, o2, none⟩) n k2, .int .i64 (-1099511627776), .int .i64 1099511627776] w fun r w' => r = .returned (.bool true) ∧ w' = w))
    (HT : Hid (∀ i, i < n → topB (a.getD i 0) = true ∧ topB (b.getD i 0) = true)) (r : Bool)
    (HW : Hid ((∀ i, i < n → absV (a.getD i 0 - b.getD i 0) ≤ e.getD i 0) → r = true)) (HN : Hid (∀ i, i < n → ¬ absV (a.getD i 0 - b.getD i 0) ≤ e.getD i 0 → r = false)) :
    Calls Try.prog 18 #[.slice (some ⟨b1, o1, none⟩) n k1, .slice (some ⟨b2, o2, none⟩) n k2, .slice (some ⟨b3, o3, none⟩) n k3] w fun q w' => q = .returned (.bool r) ∧ Below w.heap.size w w' := by
  have H1 := hid h1
  have H2 := hid h2
  have H3 := hid h3
  clear h1 h2 h3
  go_enter Try.func18, Try.ntmps18
  go_wp2_with fail
  refine HX.out.mono ?_
  rintro e' w' ⟨rfl, rfl⟩
  go_wp2_with fail
  refine HY.out.mono ?_
  rintro e' w' ⟨rfl, rfl⟩
  clear HX HY
  go_wp2_with fail
  go_loopw [31] (fun i wr => ∃ k : Nat, k ≤ n ∧ i = .int .i64 k ∧ Hid (∀ j, j < k → absV (a.getD j 0 - b.getD j 0) ≤ e.getD j 0) ∧ Hid (Below w'.heap.size w' wr)) (fun i _ => n - (intOf i).toNat)
  case atStart => exact ⟨0, Nat.zero_le _, rfl, fun j hj => by omega, Below.refl _ _⟩
  case round =>
    obtain ⟨k, hk, rfl, hall, HB⟩ := hrel
    by_cases hlt : k < n
    · have c1 := (HB.out.cell (p := ⟨b1, o1 + k, none⟩) l1).trans (H1.out k hlt)
      have c2 := (HB.out.cell (p := ⟨b2, o2 + k, none⟩) l2).trans (H2.out k hlt)
      have c3 := (HB.out.cell (p := ⟨b3, o3 + k, none⟩) l3).trans (H3.out k hlt)
      have HD := fun m => hid (below_drewN HB.out m)
      have HNk := hid (HN.out k hlt)
      obtain ⟨t1, t2⟩ := HT.out k hlt
      have hxy := nat_wi _ _ t1 t2
      have HAk : Hid (absV (a.getD k 0 - b.getD k 0) ≤ e.getD k 0 → ∀ j, j < k + 1 → absV (a.getD j 0 - b.getD j 0) ≤ e.getD j 0) := by
        intro h j hj
        by_cases q : j = k
        · rw [q]; exact h
        · exact hall.out j (by omega)
      have hkI : (k : Int) < (n : Int) := by omega
      clear hall HN HW H1 H2 H3 HT t1 t2
      generalize a.getD k 0 = x at *
      generalize b.getD k 0 = y at *
      generalize e.getD k 0 = z at *
      have k1 : wrap64 (x - y) = x - y := wrap_of (by omega) (by omega)
      have HA := hid (fun W => withoutSign_calls (x - y) W (by omega) (by omega))
      by_cases hz : absV (x - y) ≤ z
      · have HR := hid (HAk.out hz)
        clear HNk HAk
        have hz' : ¬ z < absV (x - y) := by omega
        generalize absV (x - y) = d at *
        go_wp2_with fail
        go_quiet ((go_at_call 37; exact Calls.quiet_of_same (HA.out _)))
        go_wp2
        go_roundw
        case rel => exact ⟨k + 1, by omega, by go_num, HR.out, (HD _).out⟩
        case measure => simp [intOf]; omega
      · have HR := hid (HNk.out (by omega))
        clear HNk HAk
        have hz' : z < absV (x - y) := by omega
        generalize absV (x - y) = d at *
        go_wp2_with fail
        go_quiet ((go_at_call 37; exact Calls.quiet_of_same (HA.out _)))
        go_wp2
        go_ret
        exact ⟨by rw [HR.out]; rfl, (HD _).out⟩
    · have hkn : k = n := by omega
      subst hkn
      have HR := hid (HW.out hall.out)
      clear hall HN HW H1 H2 H3 HT
      go_wp2
      go_ret
      exact ⟨by rw [HR.out]; rfl, HB.out⟩
theorem iw_none (a1 a2 a3 : Option Addr) (c1 c2 c3 : Nat) (w : World) 
    (HX : Hid (Calls Try.prog 32 #[.slice a1 0 c1, .int .i64 (-1099511627776), .int .i64 1099511627776] w fun r w' => r = .returned (.bool true) ∧ w' = w))
    (HY : Hid (Calls Try.prog 32 #[.slice a2 0 c2, .int .i64 (-1099511627776), .int .i64 1099511627776] w fun r w' => r = .returned (.bool true) ∧ w' = w)) :
    Calls Try.prog 18 #[.slice a1 0 c1, .slice a2 0 c2, .slice a3 0 c3] w fun r w' => r = .returned (.bool true) ∧ w' = w := by
  go_enter Try.func18, Try.ntmps18
  go_wp2_with fail
  refine HX.out.mono ?_
  rintro e' w' ⟨rfl, rfl⟩
  go_wp2_with fail
  refine HY.out.mono ?_
  rintro e' w' ⟨rfl, rfl⟩
  go_wp2_with fail
  go_loop [31] (fun i => i = .int .i64 0) (fun _ => 0)
  case atStart => exact rfl
  case round =>
    obtain rfl := hrel
    go_wp2
    go_ret
    exact ⟨rfl, rfl⟩
theorem implIsWithin_calls (v1 v2 v3 : Value) (a b e : List Int) (w : World) (h1 : Sl .i64 w v1 a) (h2 : Sl .i64 w v2 b) (h3 : Sl .i64 w v3 e) (m1 : a.length ≤ 1048576) (m2 : b.length ≤ 1048576) (_ : e.length ≤ 1048576) :
    Calls Try.prog 18 #[v1, v2, v3] w fun r w' => r = .returned (.bool (wiB a b e)) ∧ Below w.heap.size w w' := by
  have HX := hid (areIn_calls v1 a (-1099511627776) 1099511627776 w h1 m1)
  have HY := hid (areIn_calls v2 b (-1099511627776) 1099511627776 w h2 m2)
  obtain ⟨a1, c1, rfl, hc1⟩ := h1
  obtain ⟨a2, c2, rfl, hc2⟩ := h2
  obtain ⟨a3, c3, rfl, hc3⟩ := h3
  cases l1 : ((a.length : Int) != (b.length : Int))
  · cases l2 : ((a.length : Int) != (e.length : Int))
    · have e1 : a.length = b.length := by have : (a.length : Int) = (b.length : Int) := by simpa using l1
                                          omega
      have e2 : a.length = e.length := by have : (a.length : Int) = (e.length : Int) := by simpa using l2
                                          omega
      clear l1 l2
      have eb : b.length = a.length := e1.symm
      have ee : e.length = a.length := e2.symm
      cases x1 : a.all (inB (-1099511627776) 1099511627776)
      · have HR : Hid (wiB a b e = false) := by
          obtain ⟨i, hi, hp⟩ := all_no x1
          exact wi_not hi (fun h => by have h1 := h.1; rw [show topB (a.getD i 0) = false from hp] at h1; exact absurd h1 (by decide))
        rw [x1] at HX
        rw [eb, ee]
        clear x1 HY e1 e2 hc1 hc2 hc3 eb ee
        generalize a.length = n at *
        go_enter Try.func18, Try.ntmps18
        go_wp2_with (go_at_call 32; refine HX.out.mono ?_; rintro e w' ⟨rfl, rfl⟩)
        go_ret
        exact ⟨by rw [HR.out]; rfl, Below.refl _ _⟩
      · rw [x1] at HX
        cases x2 : b.all (inB (-1099511627776) 1099511627776)
        · have HR : Hid (wiB a b e = false) := by
            obtain ⟨i, hi, hp⟩ := all_no x2
            exact wi_not (i := i) (by omega) (fun h => by have h1 := h.2.1; rw [show topB (b.getD i 0) = false from hp] at h1; exact absurd h1 (by decide))
          rw [x2] at HY
          rw [eb] at HY
          rw [eb, ee]
          clear x1 x2 e1 e2 hc1 hc2 hc3 eb ee
          generalize a.length = n at *
          go_enter Try.func18, Try.ntmps18
          go_wp2_with fail
          refine HX.out.mono ?_
          rintro e w' ⟨rfl, rfl⟩
          go_wp2_with fail
          refine HY.out.mono ?_
          rintro e w' ⟨rfl, rfl⟩
          go_wp2
          go_ret
          exact ⟨by rw [HR.out]; rfl, Below.refl _ _⟩
        · rw [x2] at HY
          rw [eb] at HY
          have HT : Hid (∀ i, i < a.length → topB (a.getD i 0) = true ∧ topB (b.getD i 0) = true) := fun i hi => ⟨all_at (P := topB) x1 (by omega), all_at (P := topB) x2 (by omega)⟩
          have HW : Hid ((∀ i, i < a.length → absV (a.getD i 0 - b.getD i 0) ≤ e.getD i 0) → wiB a b e = true) := fun h => wi_all e1 e2 (fun i hi => ⟨(HT.out i hi).1, (HT.out i hi).2, h i hi⟩)
          have HN : Hid (∀ i, i < a.length → ¬ absV (a.getD i 0 - b.getD i 0) ≤ e.getD i 0 → wiB a b e = false) := fun i hi h => wi_not hi (fun q => h q.2.2)
          rw [eb, ee]
          by_cases hx : a = []
          · subst hx
            have hw : wiB [] b e = true := HW.out (fun i hi => absurd hi (Nat.not_lt_zero _))
            rw [hw]
            refine (iw_none a1 a2 a3 c1 c2 c3 w HX HY).mono ?_
            rintro r w' ⟨rfl, rfl⟩
            exact ⟨rfl, Below.refl _ _⟩
          · have hpos : 0 < a.length := List.length_pos_iff.2 hx
            obtain ⟨b1, o1, rfl, l1, q1⟩ := hc1 hx
            obtain ⟨b2, o2, rfl, l2, q2⟩ := hc2 (by intro q; rw [q] at eb; simp at eb; omega)
            obtain ⟨b3, o3, rfl, l3, q3⟩ := hc3 (by intro q; rw [q] at ee; simp at ee; omega)
            exact iw_some b1 o1 c1 b2 o2 c2 b3 o3 c3 a b e a.length w m1 l1 l2 l3 q1 (fun i hi => q2 i (by omega)) (fun i hi => q3 i (by omega)) HX HY HT _ HW HN
    · have HR : Hid (wiB a b e = false) := wi_len (fun h => by have := h.2; simp at l2; omega)
      clear HX HY hc1 hc2 hc3
      generalize a.length = n1 at *
      generalize b.length = n2 at *
      generalize e.length = n3 at *
      go_enter Try.func18, Try.ntmps18
      go_wp2
      go_ret
      exact ⟨by rw [HR.out]; rfl, Below.refl _ _⟩
  · have HR : Hid (wiB a b e = false) := wi_len (fun h => by have := h.1; simp at l1; omega)
    clear HX HY hc1 hc2 hc3
    generalize a.length = n1 at *
    generalize b.length = n2 at *
    generalize e.length = n3 at *
    go_enter Try.func18, Try.ntmps18
    go_wp2
    go_ret
    exact ⟨by rw [HR.out]; rfl, Below.refl _ _⟩
end Go.Proofs.Ytbbejjlgfekipaa.IwI
