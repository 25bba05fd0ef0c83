/- The next value of a decoder, and whether two decoders are the same. -/
import Derived.Test.YthecfboplfmdmaaDoorDec
import Derived.Test.YthecfboplfmdmaaDoorBlk
namespace Go.Proofs.YthecfboplfmdmaaDoor.Nxt
open Go.ChangeShapes Go.WideShapes Go.ChangeAt Go.RowKit Go.Proofs.YthecfboplfmdmaaDoor.Num Go.Proofs.YthecfboplfmdmaaDoor.Sli Go.Proofs.YthecfboplfmdmaaDoor.App Go.Proofs.YthecfboplfmdmaaDoor.Byt Go.Proofs.YthecfboplfmdmaaDoor.CrcM Go.Proofs.YthecfboplfmdmaaDoor.Str Go.Proofs.YthecfboplfmdmaaDoor.Div Go.Proofs.YthecfboplfmdmaaDoor.Dec Go.Proofs.YthecfboplfmdmaaDoor.Blk

def nV (rst rng tot : Int) : Int := min (rst / (rng / tot)) (tot - 1)
def nC (n : Nat) (at' rst rng tot : Int) : Int := if dF n at' rst rng = 0 then (if inB 1 1024 tot then 0 else 3) else dF n at' rst rng
def nO (n : Nat) (at' rst rng tot : Int) : Int := if dF n at' rst rng = 0 then (if inB 1 1024 tot then nV rst rng tot else 0) else 0

theorem unit_bd (rng tot : Int) (h1 : 65536 ≤ rng) (h2 : rng ≤ 16777216) (h3 : 1 ≤ tot) (h4 : tot ≤ 1024) : rng.tdiv tot = rng / tot ∧ 64 ≤ rng / tot ∧ rng / tot ≤ 16777216 := by
  refine ⟨Int.tdiv_eq_ediv_of_nonneg (by omega), ?_, Int.le_trans (div_le rng tot (by omega) (by omega)).2 h2⟩
  apply Int.le_ediv_of_mul_le (by omega)
  omega
theorem val_bd (rst u : Int) (h1 : 0 ≤ rst) (h2 : rst ≤ 16777216) (h3 : 64 ≤ u) : rst.tdiv u = rst / u ∧ 0 ≤ rst / u ∧ rst / u ≤ 16777216 :=
  ⟨Int.tdiv_eq_ediv_of_nonneg h1, (div_le rst u h1 (by omega)).1, Int.le_trans (div_le rst u h1 (by omega)).2 h2⟩

theorem l1Min_calls (a b : Int) (w : World) : Calls Tryd.prog 99 #[.int .i64 a, .int .i64 b] w fun e w' => e = .returned (.int .i64 (min a b)) ∧ w' = w := by
  by_cases h : a < b
  · have H : Hid (a = min a b) := (Int.min_eq_left (by omega)).symm
    go_enter Tryd.func99, Tryd.ntmps99
    go_wp2
    go_ret
    exact ⟨ret_int H.out, rfl⟩
  · have H : Hid (b = min a b) := (Int.min_eq_right (by omega)).symm
    go_enter Tryd.func99, Tryd.ntmps99
    go_wp2
    go_ret
    exact ⟨ret_int H.out, rfl⟩
theorem l3Value_calls (g : Nat) (rst rng tot : Int) (w : World) (c2 : w.cell? ⟨g, 2, none⟩ = some (.int .i64 rst)) (c3 : w.cell? ⟨g, 3, none⟩ = some (.int .i64 rng))
    (h1 : 65536 ≤ rng) (h2 : rng ≤ 16777216) (h3 : 1 ≤ tot) (h4 : tot ≤ 1024) (h5 : 0 ≤ rst) (h6 : rst ≤ 16777216) :
    Calls Tryd.prog 85 #[.pointer (some ⟨g, 0, none⟩), .int .i64 tot] w fun e w' => e = .returned (.int .i64 (nV rst rng tot)) ∧ ∃ m, w' = w.drewN m := by
  obtain ⟨q1, b1, b2⟩ := unit_bd rng tot h1 h2 h3 h4
  obtain ⟨q2, b3, b4⟩ := val_bd rst (rng / tot) h5 h6 b1
  have HV : Hid (min (rst / (rng / tot)) (tot - 1) = nV rst rng tot) := rfl
  generalize rng / tot = u at *
  generalize rst / u = v at *
  go_enter Tryd.func85, Tryd.ntmps85
  go_wp2_with fail
  go_quiet ((go_at_call 99; exact Calls.quiet_of_same (l1Min_calls _ _ _)))
  go_wp2
  go_ret
  exact ⟨ret_int HV.out, _, rfl⟩
theorem implNext_calls (a : Option Addr) (n cap : Nat) (at' rst rng tot : Int) (w : World) (hn : n ≤ 1048576) :
    Calls Tryd.prog 97 #[.agg #[.slice a n cap, .int .i64 at', .int .i64 rst, .int .i64 rng], .int .i64 tot] w fun e w' => e = .returned (.agg #[.int .i64 (nC n at' rst rng tot), .int .i64 (nO n at' rst rng tot)]) ∧ Below w.heap.size w w' := by
  by_cases hd : dF n at' rst rng = 0
  · obtain ⟨_, _, ⟨h1, h2⟩, h5, h6⟩ := of_dF hd
    unfold nC nO
    rw [if_pos hd, if_pos hd]
    cases hx : inB 1 1024 tot
    · go_enter Tryd.func97, Tryd.ntmps97
      go_wp2_with fail
      refine (implDF_calls _ _ _ _ _ _ _ hn).mono ?_
      rintro e w1 ⟨rfl, hb⟩
      rw [hd]
      obtain ⟨A, B, hall, hsz⟩ := boxes2 hb
      obtain ⟨c0, c1, f0, f1⟩ := B.two
      have Hall := hid hall
      clear hb hall
      go_wp2_with (go_at_call 36; refine (isWithin_calls _ _ _ _).mono ?_; rintro e w' ⟨rfl, rfl⟩; simp only [hx])
      exact bodyPost_ret (v := .agg #[.int .i64 3, .int .i64 0]) (by simp [results, Tryd.results97, go_sem, c0, c1]) rfl ⟨rfl, below_cell (below_cell Hall.out (by omega) _ _) (by omega) _ _⟩
    · obtain ⟨h3, h4⟩ := of_inB hx
      obtain ⟨q1, b1, b2⟩ := unit_bd rng tot h1 h2 h3 h4
      obtain ⟨q2, b3, b4⟩ := val_bd rst (rng / tot) h5 (by omega) b1
      have HV : Hid ((if tot - 1 < rst / (rng / tot) then tot - 1 else rst / (rng / tot)) = nV rst rng tot) := by unfold nV Hid; split <;> omega
      generalize rng / tot = u at *
      generalize rst / u = v at *
      go_enter Tryd.func97, Tryd.ntmps97
      go_wp2_with fail
      refine (implDF_calls _ _ _ _ _ _ _ hn).mono ?_
      rintro e w1 ⟨rfl, hb⟩
      rw [hd]
      obtain ⟨A, B, hall, hsz⟩ := boxes2 hb
      obtain ⟨c0, c1, f0, f1⟩ := B.two
      obtain ⟨a0, a1, a2, a3, _⟩ := A.four
      have Hall := hid hall
      clear hb hall
      go_wp2_with (go_at_call 36; refine (isWithin_calls _ _ _ _).mono ?_; rintro e w' ⟨rfl, rfl⟩; simp only [hx])
      have t0 : ¬ tot = 0 := by omega
      have u0 : ¬ u = 0 := by omega
      have k1 : IntKind.i64.wrap u = u := wrapk_of (by omega) (by omega)
      have k2 : IntKind.i64.wrap v = v := wrapk_of (by omega) (by omega)
      have k3 : IntKind.i64.wrap (tot - 1) = tot - 1 := wrapk_of (by omega) (by omega)
      refine wp_region_noPanic ?_
      refine wp_region_held_drew (S := fun W => W.cell? ⟨w.heap.size, 2, none⟩ = some (.int .i64 rst) ∧ W.cell? ⟨w.heap.size, 3, none⟩ = some (.int .i64 rng)) (by kernel_rfl) (by first | exact ⟨a2, a3⟩ | go_keep) (fun hHeld => ?_)
      (refine wpAnyH_take (i := 0) (v := ?_) rfl (by kernel_rfl) (by kernel_rfl) (by kernel_rfl) (fun _ _ _ h => h) (Or.inl ⟨by rfl, ?_⟩) hHeld ?_; rotate_left; (intro w hSw; (obtain ⟨s2, s3⟩ := hSw); (go_simp <;> with_reducible rfl)); simp only [List.getElem_toArray, List.getElem_cons_zero, Act.put, List.setIfInBounds_toArray, List.set_cons_zero, List.set_cons_succ])
      (refine wpAnyH_take (i := 1) (v := ?_) rfl (by kernel_rfl) (by kernel_rfl) (by kernel_rfl) (fun _ _ _ h => h) (Or.inl ⟨by rfl, ?_⟩) hHeld ?_; rotate_left; (intro w hSw; (obtain ⟨s2, s3⟩ := hSw); (go_simp <;> with_reducible rfl)); simp only [List.getElem_toArray, List.getElem_cons_zero, List.getElem_cons_succ, Act.put, List.setIfInBounds_toArray, List.set_cons_zero, List.set_cons_succ])
      (refine wpAnyH_take (i := 2) (v := ?_) rfl (by kernel_rfl) (by kernel_rfl) (by kernel_rfl) (fun _ _ _ h => h) (Or.inl ⟨by rfl, ?_⟩) hHeld ?_; rotate_left; (intro w hSw; (obtain ⟨s2, s3⟩ := hSw); (go_simp <;> with_reducible rfl)); simp only [List.getElem_toArray, List.getElem_cons_zero, List.getElem_cons_succ, Act.put, List.setIfInBounds_toArray, List.set_cons_zero, List.set_cons_succ])
      (refine wpAnyH_take (i := 3) (v := ?_) rfl (by kernel_rfl) (by kernel_rfl) (by kernel_rfl) (fun _ _ _ h => h) (Or.inl ⟨by rfl, ?_⟩) hHeld ?_; rotate_left; (intro w hSw; (obtain ⟨s2, s3⟩ := hSw); (go_simp <;> with_reducible rfl)); simp only [List.getElem_toArray, List.getElem_cons_zero, List.getElem_cons_succ, Act.put, List.setIfInBounds_toArray, List.set_cons_zero, List.set_cons_succ])
      (refine wpAnyH_take (i := 4) (v := ?_) rfl (by kernel_rfl) (by kernel_rfl) (by kernel_rfl) (fun _ _ _ h => h) (Or.inl ⟨by rfl, ?_⟩) hHeld ?_; rotate_left; (intro w hSw; (obtain ⟨s2, s3⟩ := hSw); (go_simp <;> with_reducible rfl)); simp only [List.getElem_toArray, List.getElem_cons_zero, List.getElem_cons_succ, Act.put, List.setIfInBounds_toArray, List.set_cons_zero, List.set_cons_succ])
      (refine wpAnyH_take (i := 5) (v := ?_) rfl (by kernel_rfl) (by kernel_rfl) (by kernel_rfl) (fun _ _ _ h => h) (Or.inl ⟨by rfl, ?_⟩) hHeld ?_; rotate_left; (intro w hSw; (obtain ⟨s2, s3⟩ := hSw); (go_simp <;> with_reducible rfl)); simp only [List.getElem_toArray, List.getElem_cons_zero, List.getElem_cons_succ, Act.put, List.setIfInBounds_toArray, List.set_cons_zero, List.set_cons_succ])
      (refine wpAnyH_take (i := 6) (v := ?_) rfl (by kernel_rfl) (by kernel_rfl) (by kernel_rfl) (fun _ _ _ h => h) (Or.inl ⟨by rfl, ?_⟩) hHeld ?_; rotate_left; (intro w hSw; (obtain ⟨s2, s3⟩ := hSw); (go_simp <;> with_reducible rfl)); simp only [List.getElem_toArray, List.getElem_cons_zero, List.getElem_cons_succ, Act.put, List.setIfInBounds_toArray, List.set_cons_zero, List.set_cons_succ])
      (refine wpAnyH_take (i := 7) (v := ?_) rfl (by kernel_rfl) (by kernel_rfl) (by kernel_rfl) (fun _ _ _ h => h) (Or.inl ⟨by rfl, ?_⟩) hHeld ?_; rotate_left; (intro w hSw; (obtain ⟨s2, s3⟩ := hSw); (go_simp <;> with_reducible rfl)); simp only [List.getElem_toArray, List.getElem_cons_zero, List.getElem_cons_succ, Act.put, List.setIfInBounds_toArray, List.set_cons_zero, List.set_cons_succ])
      (refine wpAnyH_take (i := 8) (v := ?_) rfl (by kernel_rfl) (by kernel_rfl) (by kernel_rfl) (fun _ _ _ h => h) (Or.inl ⟨by rfl, ?_⟩) hHeld ?_; rotate_left; (intro w hSw; (obtain ⟨s2, s3⟩ := hSw); (go_simp <;> with_reducible rfl)); simp only [List.getElem_toArray, List.getElem_cons_zero, List.getElem_cons_succ, Act.put, List.setIfInBounds_toArray, List.set_cons_zero, List.set_cons_succ])
      (refine wpAnyH_take (i := 9) (v := ?_) rfl (by kernel_rfl) (by kernel_rfl) (by kernel_rfl) (fun _ _ _ h => h) (Or.inl ⟨by rfl, ?_⟩) hHeld ?_; rotate_left; (intro w hSw; (obtain ⟨s2, s3⟩ := hSw); (go_simp <;> with_reducible rfl)); simp only [List.getElem_toArray, List.getElem_cons_zero, List.getElem_cons_succ, Act.put, List.setIfInBounds_toArray, List.set_cons_zero, List.set_cons_succ])
      (refine wpAnyH_take (i := 10) (v := ?_) rfl (by kernel_rfl) (by kernel_rfl) (by kernel_rfl) (fun _ _ _ h => h) (Or.inl ⟨by rfl, ?_⟩) hHeld ?_; rotate_left; (intro w hSw; (obtain ⟨s2, s3⟩ := hSw); (go_simp <;> with_reducible rfl)); simp only [List.getElem_toArray, List.getElem_cons_zero, List.getElem_cons_succ, Act.put, List.setIfInBounds_toArray, List.set_cons_zero, List.set_cons_succ])
      refine wpAnyH_ready (rs := [11]) (by kernel_rfl) (by simp) ?_
      refine (AllReadyH.cons rfl (fun K hK => ?_) AllReadyH.nil)
      go_simp
      skip
      refine hK.out _ _ (by first | exact ⟨a2, a3⟩ | go_keep) (fun hHeld => ?_)
      clear hK K
      try simp only [List.getElem_toArray, List.getElem_cons_zero, List.getElem_cons_succ, Act.put, List.setIfInBounds_toArray, List.set_cons_zero, List.set_cons_succ]
      refine wpAnyH_done (by kernel_rfl) ?_ _
      refine NoPanic.normal ?_
      have HV2 := HV.out
      generalize (if tot - 1 < v then tot - 1 else v) = z at *
      have HZ := hid HV2
      clear HV2
      go_wp2
      exact bodyPost_ret (v := .agg #[.int .i64 0, .int .i64 z]) (by simp [results, Tryd.results97, go_sem, c0, c1]) rfl ⟨by rw [HZ.out], below_drewN (below_cell (below_cell Hall.out (by omega) _ _) (by omega) _ _) 1⟩
  · have hd' : (dF n at' rst rng != 0) = true := by simpa using hd
    unfold nC nO
    rw [if_neg hd, if_neg hd]
    go_enter Tryd.func97, Tryd.ntmps97
    go_wp2_with fail
    refine (implDF_calls _ _ _ _ _ _ _ hn).mono ?_
    rintro e w1 ⟨rfl, hb⟩
    obtain ⟨A, B, hall, hsz⟩ := boxes2 hb
    obtain ⟨c0, c1, f0, f1⟩ := B.two
    have Hall := hid hall
    clear hb hall
    generalize hc : dF n at' rst rng = c at *
    have Hc := hid hc
    clear hc
    go_wp2
    exact bodyPost_ret (v := .agg #[.int .i64 c, .int .i64 0]) (by simp [results, Tryd.results97, go_sem, c0, c1]) rfl ⟨by rw [Hc.out], below_cell (below_cell Hall.out (by omega) _ _) (by omega) _ _⟩
theorem bytesEqual_calls (v1 v2 : Value) (xs ys : List Int) (w : World) (h1 : Sl .u8 w v1 xs) (h2 : Sl .u8 w v2 ys) (hx : BytesL xs) (hy : BytesL ys) :
    Calls Tryd.prog 58 #[v1, v2] w fun e w' => e = .returned (.bool (decide (xs = ys))) ∧ w' = w := by
  have r1 := run_str h1
  have r2 := run_str h2
  have H := hid (str_eq xs ys hx hy)
  obtain ⟨a1, cap1, rfl, _⟩ := h1
  obtain ⟨a2, cap2, rfl, _⟩ := h2
  go_enter Tryd.func58, Tryd.ntmps58
  go_wp2
  go_ret
  exact ⟨ret_bool H.out, rfl⟩
def samD (xs ys : List Int) (a1 r1 g1 a2 r2 g2 : Int) : Bool := decide (xs = ys) && (a1 == a2) && (r1 == r2) && (g1 == g2)
theorem samD_in {xs ys : List Int} {a1 r1 g1 a2 r2 g2 : Int} {p q r s : Bool} (h0 : decide (xs = ys) = p) (h1 : (a1 == a2) = q) (h2 : (r1 == r2) = r) (h3 : (g1 == g2) = s) : samD xs ys a1 r1 g1 a2 r2 g2 = (p && q && r && s) := by
  unfold samD; rw [h0, h1, h2, h3]
end Go.Proofs.YthecfboplfmdmaaDoor.Nxt
