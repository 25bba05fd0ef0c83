/- Values in the program: ZigOf, UnzigOf, the slot of a class, the pieces of a rest, SlotsOf, ClassSlot. -/
import Derived.Test.YthecfboplfmdmaaDoorValZ
import Derived.Test.YthecfboplfmdmaaDoorBlk
import Derived.Test.YthecfboplfmdmaaDoorDiv
import Derived.Test.YthecfboplfmdmaaDoorExL
namespace Go.Proofs.YthecfboplfmdmaaDoor.ValI
open Go.ChangeShapes Go.WideShapes Go.ChangeAt Go.RowKit Go.Proofs.YthecfboplfmdmaaDoor.Num Go.Proofs.YthecfboplfmdmaaDoor.Sli Go.Proofs.YthecfboplfmdmaaDoor.App Go.Proofs.YthecfboplfmdmaaDoor.Div Go.Proofs.YthecfboplfmdmaaDoor.Dec Go.Proofs.YthecfboplfmdmaaDoor.Blk Go.Proofs.YthecfboplfmdmaaDoor.RangeM Go.Proofs.YthecfboplfmdmaaDoor.SlS Go.Proofs.YthecfboplfmdmaaDoor.ExL Go.Proofs.YthecfboplfmdmaaDoor.ValZ

/-- The answers of ZigOf and UnzigOf. -/
def zC (v : Int) : Int := if inB (-65535) 65535 v = true then 0 else 3
def zO (v : Int) : Int := if inB (-65535) 65535 v = true then (zg v : Int) else 0
def uC (z : Int) : Int := if inB 0 131070 z = true then 0 else 3
def uO (z : Int) : Int := if inB 0 131070 z = true then uz z.toNat else 0
theorem z_no {v : Int} (h : inB (-65535) 65535 v = false) : 3 = zC v ∧ 0 = zO v := by unfold zC zO; simp [h]
theorem z_neg {v : Int} (h : inB (-65535) 65535 v = true) (hv : v < 0) : 0 = zC v ∧ -2 * v - 1 = zO v := by
  unfold zC zO zg; rw [if_pos h, if_pos h, if_pos hv]; have := of_inB h; omega
theorem z_pos {v : Int} (h : inB (-65535) 65535 v = true) (hv : ¬ v < 0) : 0 = zC v ∧ 2 * v = zO v := by
  unfold zC zO zg; rw [if_pos h, if_pos h, if_neg hv]; have := of_inB h; omega
theorem u_no {z : Int} (h : inB 0 131070 z = false) : 3 = uC z ∧ 0 = uO z := by unfold uC uO; simp [h]
theorem u_odd {z : Int} (h : inB 0 131070 z = true) (hz : z % 2 = 1) : 0 = uC z ∧ -((z + 1) / 2) = uO z := by
  obtain ⟨h1, h2⟩ := of_inB h
  unfold uC uO uz
  rw [if_pos h, if_pos h, if_pos (by omega)]
  omega
theorem u_even {z : Int} (h : inB 0 131070 z = true) (hz : ¬ z % 2 = 1) : 0 = uC z ∧ z / 2 = uO z := by
  obtain ⟨h1, h2⟩ := of_inB h
  unfold uC uO uz
  rw [if_pos h, if_pos h, if_neg (by omega)]
  omega

theorem implZig_calls (v : Int) (w : World) :
    Calls Tryd.prog 45 #[.int .i64 v] w fun e w' => e = .returned (.agg #[.int .i64 (zC v), .int .i64 (zO v)]) ∧ Below w.heap.size w w' := by
  cases h1 : inB (-65535) 65535 v
  · have H := hid (z_no h1)
    go_enter Tryd.func45, Tryd.ntmps45
    go_wp2_with (first | (go_at_call 36; refine (isWithin_calls _ _ _ _).mono ?_; rintro e w' ⟨rfl, rfl⟩))
    exact bodyPost_ret (v := .agg #[.int .i64 3, .int .i64 (0)]) (by simp [results, Tryd.results45, go_sem]) rfl ⟨ret_two H.out.1 H.out.2, (Below.refl _ _).alloc (Nat.le_refl _) _⟩
  · have b1 := of_inB h1
    by_cases hv : v < 0
    · have H := hid (z_neg h1 hv)
      go_enter Tryd.func45, Tryd.ntmps45
      go_wp2_with (first | (go_at_call 36; refine (isWithin_calls _ _ _ _).mono ?_; rintro e w' ⟨rfl, rfl⟩))
      exact bodyPost_ret (v := .agg #[.int .i64 0, .int .i64 (-2 * v - 1)]) (by simp [results, Tryd.results45, go_sem]) rfl ⟨ret_two H.out.1 H.out.2, (Below.refl _ _).alloc (Nat.le_refl _) _⟩
    · have H := hid (z_pos h1 hv)
      go_enter Tryd.func45, Tryd.ntmps45
      go_wp2_with (first | (go_at_call 36; refine (isWithin_calls _ _ _ _).mono ?_; rintro e w' ⟨rfl, rfl⟩))
      exact bodyPost_ret (v := .agg #[.int .i64 0, .int .i64 (2 * v)]) (by simp [results, Tryd.results45, go_sem]) rfl ⟨ret_two H.out.1 H.out.2, (Below.refl _ _).alloc (Nat.le_refl _) _⟩
theorem implUnzig_calls (z : Int) (w : World) :
    Calls Tryd.prog 82 #[.int .i64 z] w fun e w' => e = .returned (.agg #[.int .i64 (uC z), .int .i64 (uO z)]) ∧ Below w.heap.size w w' := by
  cases h1 : inB 0 131070 z
  · have H := hid (u_no h1)
    go_enter Tryd.func82, Tryd.ntmps82
    go_wp2_with (first | (go_at_call 36; refine (isWithin_calls _ _ _ _).mono ?_; rintro e w' ⟨rfl, rfl⟩))
    exact bodyPost_ret (v := .agg #[.int .i64 3, .int .i64 (0)]) (by simp [results, Tryd.results82, go_sem]) rfl ⟨ret_two H.out.1 H.out.2, (Below.refl _ _).alloc (Nat.le_refl _) _⟩
  · have b1 := of_inB h1
    have hm : z.tmod 2 = z % 2 := Int.tmod_eq_emod_of_nonneg b1.1
    by_cases hv : z % 2 = 1
    · have H := hid (u_odd h1 hv)
      have hd : (z + 1).tdiv 2 = (z + 1) / 2 := Int.tdiv_eq_ediv_of_nonneg (by omega)
      have hq : 0 ≤ (z + 1) / 2 ∧ (z + 1) / 2 ≤ 65536 := by omega
      go_enter Tryd.func82, Tryd.ntmps82
      go_wp2_with (first | (go_at_call 36; refine (isWithin_calls _ _ _ _).mono ?_; rintro e w' ⟨rfl, rfl⟩))
      exact bodyPost_ret (v := .agg #[.int .i64 0, .int .i64 (-((z + 1) / 2))]) (by simp [results, Tryd.results82, go_sem]) rfl ⟨ret_two H.out.1 H.out.2, (Below.refl _ _).alloc (Nat.le_refl _) _⟩
    · have H := hid (u_even h1 hv)
      have hd : z.tdiv 2 = z / 2 := Int.tdiv_eq_ediv_of_nonneg (by omega)
      have hq : 0 ≤ z / 2 ∧ z / 2 ≤ 65536 := by omega
      go_enter Tryd.func82, Tryd.ntmps82
      go_wp2_with (first | (go_at_call 36; refine (isWithin_calls _ _ _ _).mono ?_; rintro e w' ⟨rfl, rfl⟩))
      exact bodyPost_ret (v := .agg #[.int .i64 0, .int .i64 (z / 2)]) (by simp [results, Tryd.results82, go_sem]) rfl ⟨ret_two H.out.1 H.out.2, (Below.refl _ _).alloc (Nat.le_refl _) _⟩
/-! The slot of a class. -/
theorem size_calls (c : Nat) (w : World) : Calls Tryd.prog 63 #[.int .i64 (c : Int)] w fun e w' => e = .returned (.int .i64 (shr c : Int)) ∧ w' = w := by
  by_cases h6 : c < 6
  · have hx : c = 0 ∨ c = 1 ∨ c = 2 ∨ c = 3 ∨ c = 4 ∨ c = 5 := by omega
    rcases hx with rfl | rfl | rfl | rfl | rfl | rfl
    all_goals
      go_enter Tryd.func63, Tryd.ntmps63
      go_wp2
      go_ret
      exact ⟨rfl, rfl⟩
  · have H : Hid (shr c = 2) := by
      obtain ⟨d, rfl⟩ : ∃ d, c = d + 6 := ⟨c - 6, by omega⟩
      rfl
    have n0 : ((c : Int) == 0) = false := beq_eq_false_iff_ne.2 (by omega)
    have n1 : ((c : Int) == 1) = false := beq_eq_false_iff_ne.2 (by omega)
    have n2 : ((c : Int) == 2) = false := beq_eq_false_iff_ne.2 (by omega)
    have n3 : ((c : Int) == 3) = false := beq_eq_false_iff_ne.2 (by omega)
    have n4 : ((c : Int) == 4) = false := beq_eq_false_iff_ne.2 (by omega)
    have n5 : ((c : Int) == 5) = false := beq_eq_false_iff_ne.2 (by omega)
    generalize (c : Int) = x at *
    go_enter Tryd.func63, Tryd.ntmps63
    go_wp2
    go_ret
    exact ⟨by rw [H.out]; rfl, rfl⟩
theorem shr_le (c : Nat) : shr c ≤ 96 := by unfold shr; split <;> omega
theorem lwc_le (c : Nat) : lwc c ≤ 96 * c := by
  induction c with
  | zero => exact Nat.le_refl _
  | succ c ih => have := shr_le c; unfold lwc; omega
set_option maxHeartbeats 1000000 in
theorem slot_calls (c : Nat) (w : World) (hc : c < 18) :
    Calls Tryd.prog 47 #[.int .i64 (c : Int)] w fun e w' => e = .returned (.agg #[.int .i64 (lwc c : Int), .int .i64 (shr c : Int), .int .i64 256]) ∧ Below w.heap.size w w' := by
  have HS := hid size_calls
  have HB : Hid (Below w.heap.size w ((w.alloc (.cells #[.int .i64 0, .int .i64 0, .int .i64 0] 75)).alloc (.cells #[.int .i64 0, .int .i64 (shr c : Int), .int .i64 256] 75))) := bmore (bmore (Below.refl _ _) _) _
  have HR : Hid (Blk ((w.alloc (.cells #[.int .i64 0, .int .i64 0, .int .i64 0] 75)).alloc (.cells #[.int .i64 0, .int .i64 (shr c : Int), .int .i64 256] 75)) w.heap.size #[.int .i64 0, .int .i64 0, .int .i64 0] 75) := (Blk.new _ _ _).alloc _
  have HT : Hid (Blk ((w.alloc (.cells #[.int .i64 0, .int .i64 0, .int .i64 0] 75)).alloc (.cells #[.int .i64 0, .int .i64 (shr c : Int), .int .i64 256] 75)) (w.heap.size + 1) #[.int .i64 0, .int .i64 (shr c : Int), .int .i64 256] 75) := by
    have := Blk.new (w.alloc (.cells #[.int .i64 0, .int .i64 0, .int .i64 0] 75)) #[.int .i64 0, .int .i64 (shr c : Int), .int .i64 256] 75
    rwa [World.size_alloc] at this
  go_enter Tryd.func47, Tryd.ntmps47
  go_wp2_with fail
  refine (HS.out c _).mono ?_
  rintro e w1 ⟨rfl, rfl⟩
  generalize hsc : shr c = sc at *
  have Hsc := hid hsc
  clear hsc
  go_wp2_with fail
  go_loopw [9] (fun i wr => ∃ k : Nat, i = .int .i64 (k : Int) ∧ k ≤ c ∧ Hid (Blk wr w.heap.size #[.int .i64 0, .int .i64 0, .int .i64 0] 75) ∧ Hid (Blk wr (w.heap.size + 1) #[.int .i64 (lwc k : Int), .int .i64 (sc : Int), .int .i64 256] 75) ∧ Hid (Below w.heap.size w wr)) (fun i _ => c - (intOf i).toNat)
  case atStart => exact ⟨0, rfl, Nat.zero_le _, HR.out, HT.out, HB.out⟩
  case round =>
    clear HR HT HB
    obtain ⟨k, rfl, hk, hR, hT, hL⟩ := hrel
    by_cases hlt : k < c
    · obtain ⟨c0, c1, c2, f0, f1, f2⟩ := hT.out.three
      have hz := hid (HS.out k wr)
      have hz2 := hid (HS.out k wr.drew)
      have hle := lwc_le k
      have hse := shr_le k
      have Hn : Hid (lwc (k + 1) = lwc k + shr k) := rfl
      generalize lwc k = lk at *
      generalize shr k = sk at *
      have q1 : wrap64 ((lk : Int) + (sk : Int)) = (lk : Int) + (sk : Int) := wrap_of (by omega) (by omega)
      have q2 : IntKind.i64.wrap ((lk : Int) + (sk : Int)) = (lk : Int) + (sk : Int) := wrapk_of (by omega) (by omega)
      have HT1 : Hid (Blk (wr.setCell ⟨w.heap.size + 1, 0, none⟩ (.int .i64 ((lk : Int) + (sk : Int)))).drew (w.heap.size + 1) #[.int .i64 ((lk : Int) + (sk : Int)), .int .i64 (sc : Int), .int .i64 256] 75) := hT.out.set 0 _
      have HR1 : Hid (Blk (wr.setCell ⟨w.heap.size + 1, 0, none⟩ (.int .i64 ((lk : Int) + (sk : Int)))).drew w.heap.size #[.int .i64 0, .int .i64 0, .int .i64 0] 75) := hR.out.other (by omega) 0 _
      have HL1 : Hid (Below w.heap.size w (wr.setCell ⟨w.heap.size + 1, 0, none⟩ (.int .i64 ((lk : Int) + (sk : Int)))).drew) := hL.out.setCell (p := ⟨w.heap.size + 1, 0, none⟩) (by simp) _ |>.drew
      clear hR hT hL
      go_wp2_with fail
      refine wp_region_noPanic ?_
      refine wp_region_held_drew (S := fun _ => True) (by kernel_rfl) trivial (fun hHeld => ?_)
      (refine wpAnyH_take (i := 0) (v := ?_) rfl (by kernel_rfl) (by kernel_rfl) (by kernel_rfl) (fun _ _ _ h => h) (Or.inl ⟨by rfl, ?_⟩) hHeld ?_; rotate_left; (intro w hSw; skip; (go_simp <;> with_reducible rfl)); simp only [List.getElem_toArray, List.getElem_cons_zero, Act.put, List.setIfInBounds_toArray, List.set_cons_zero, List.set_cons_succ])
      (refine wpAnyH_take (i := 2) (v := ?_) rfl (by kernel_rfl) (by kernel_rfl) (by kernel_rfl) (fun _ _ _ h => h) (Or.inl ⟨by rfl, ?_⟩) hHeld ?_; rotate_left; (intro w hSw; skip; (go_simp <;> with_reducible rfl)); simp only [List.getElem_toArray, List.getElem_cons_zero, List.getElem_cons_succ, Act.put, List.setIfInBounds_toArray, List.set_cons_zero, List.set_cons_succ])
      refine wpAnyH_ready (rs := [1, 3]) (by kernel_rfl) (by simp) ?_
      refine (AllReadyH.cons rfl (fun K hK => ?_) (AllReadyH.cons rfl (fun K hK => ?_) AllReadyH.nil))
      · go_simp
        skip
        refine hK.out _ _ trivial (fun hHeld => ?_)
        clear hK K
        try simp only [List.getElem_toArray, List.getElem_cons_zero, List.getElem_cons_succ, Act.put, List.setIfInBounds_toArray, List.set_cons_zero, List.set_cons_succ]
        refine wpAnyH_ready (rs := [3]) (by kernel_rfl) (by simp) ?_
        refine (AllReadyH.cons rfl (fun K hK => ?_) AllReadyH.nil)
        go_simp
        (refine hz2.out.mono ?_; rintro e W2 ⟨rfl, rfl⟩)
        refine hK.out _ _ trivial (fun hHeld => ?_)
        clear hK K
        try dsimp only
        (refine wpAnyH_take (i := 4) (v := ?_) rfl (by kernel_rfl) (by kernel_rfl) (by kernel_rfl) (fun _ _ _ h => h) (Or.inl ⟨by rfl, ?_⟩) hHeld ?_; rotate_left; (intro w hSw; skip; (go_simp <;> with_reducible rfl)); simp only [List.getElem_toArray, List.getElem_cons_zero, List.getElem_cons_succ, Act.put, List.setIfInBounds_toArray, List.set_cons_zero, List.set_cons_succ])
        (refine wpAnyH_take (i := 5) (v := ?_) rfl (by kernel_rfl) (by kernel_rfl) (by kernel_rfl) (fun _ _ _ h => h) (Or.inl ⟨by rfl, ?_⟩) hHeld ?_; rotate_left; (intro w hSw; skip; (go_simp <;> with_reducible rfl)); simp only [List.getElem_toArray, List.getElem_cons_zero, List.getElem_cons_succ, Act.put, List.setIfInBounds_toArray, List.set_cons_zero, List.set_cons_succ])
        refine wpAnyH_ready (rs := [6]) (by kernel_rfl) (by simp) ?_
        refine (AllReadyH.cons rfl (fun K hK => ?_) AllReadyH.nil)
        go_simp
        skip
        refine hK.out _ _ trivial (fun hHeld => ?_)
        clear hK K
        try simp only [List.getElem_toArray, List.getElem_cons_zero, List.getElem_cons_succ, Act.put, List.setIfInBounds_toArray, List.set_cons_zero, List.set_cons_succ]
        refine wpAnyH_done (by kernel_rfl) ?_ _
        refine NoPanic.normal ?_
        go_wp2
        go_roundw
        case rel => exact ⟨k + 1, by go_num, by omega, HR1.out, (by rw [Hn.out]; exact HT1.out), HL1.out⟩
        case measure => simp [intOf]; omega
      · go_simp
        (refine hz2.out.mono ?_; rintro e W2 ⟨rfl, rfl⟩)
        refine hK.out _ _ trivial (fun hHeld => ?_)
        clear hK K
        try dsimp only
        refine wpAnyH_ready (rs := [1]) (by kernel_rfl) (by simp) ?_
        refine (AllReadyH.cons rfl (fun K hK => ?_) AllReadyH.nil)
        go_simp
        skip
        refine hK.out _ _ trivial (fun hHeld => ?_)
        clear hK K
        try simp only [List.getElem_toArray, List.getElem_cons_zero, List.getElem_cons_succ, Act.put, List.setIfInBounds_toArray, List.set_cons_zero, List.set_cons_succ]
        (refine wpAnyH_take (i := 4) (v := ?_) rfl (by kernel_rfl) (by kernel_rfl) (by kernel_rfl) (fun _ _ _ h => h) (Or.inl ⟨by rfl, ?_⟩) hHeld ?_; rotate_left; (intro w hSw; skip; (go_simp <;> with_reducible rfl)); simp only [List.getElem_toArray, List.getElem_cons_zero, List.getElem_cons_succ, Act.put, List.setIfInBounds_toArray, List.set_cons_zero, List.set_cons_succ])
        (refine wpAnyH_take (i := 5) (v := ?_) rfl (by kernel_rfl) (by kernel_rfl) (by kernel_rfl) (fun _ _ _ h => h) (Or.inl ⟨by rfl, ?_⟩) hHeld ?_; rotate_left; (intro w hSw; skip; (go_simp <;> with_reducible rfl)); simp only [List.getElem_toArray, List.getElem_cons_zero, List.getElem_cons_succ, Act.put, List.setIfInBounds_toArray, List.set_cons_zero, List.set_cons_succ])
        refine wpAnyH_ready (rs := [6]) (by kernel_rfl) (by simp) ?_
        refine (AllReadyH.cons rfl (fun K hK => ?_) AllReadyH.nil)
        go_simp
        skip
        refine hK.out _ _ trivial (fun hHeld => ?_)
        clear hK K
        try simp only [List.getElem_toArray, List.getElem_cons_zero, List.getElem_cons_succ, Act.put, List.setIfInBounds_toArray, List.set_cons_zero, List.set_cons_succ]
        refine wpAnyH_done (by kernel_rfl) ?_ _
        refine NoPanic.normal ?_
        go_wp2
        go_roundw
        case rel => exact ⟨k + 1, by go_num, by omega, HR1.out, (by rw [Hn.out]; exact HT1.out), HL1.out⟩
        case measure => simp [intOf]; omega
    · obtain rfl : k = c := by omega
      obtain ⟨c0, c1, c2, _⟩ := hT.out.three
      obtain ⟨d0, d1, d2, f0, f1, f2⟩ := hR.out.three
      have HE := hid (((hR.out.set 0 (.int .i64 (lwc k : Int))).set 1 (.int .i64 (sc : Int))).set 2 (.int .i64 256))
      have HL := hid (below_cell (below_cell (below_cell hL.out (Nat.le_refl _) 0 (.int .i64 (lwc k : Int))) (Nat.le_refl _) 1 (.int .i64 (sc : Int))) (Nat.le_refl _) 2 (.int .i64 256))
      clear hR hT hL
      generalize hlk : lwc k = lk at *
      have Hlk := hid hlk
      clear hlk
      go_wp2
      obtain ⟨y0, y1, y2, _⟩ := HE.out.three
      exact bodyPost_ret (v := .agg #[.int .i64 (lk : Int), .int .i64 (sc : Int), .int .i64 256]) (by simp [results, Tryd.results47, go_sem, y0, y1, y2]) rfl ⟨by rw [Hlk.out, Hsc.out], HL.out⟩
/-- The answers of ClassSlot and SlotsOf. -/
def kC (c : Int) : Int := if inB 0 17 c = true then 0 else 3
def kL (c : Int) : List Sl3 := if inB 0 17 c = true then [cSl c.toNat] else []
def sC (v : Int) : Int := if inB (-65535) 65535 v = true then 0 else 3
def sL (v : Int) : List Sl3 := if inB (-65535) 65535 v = true then zSl (zg v) else []
end Go.Proofs.YthecfboplfmdmaaDoor.ValI
