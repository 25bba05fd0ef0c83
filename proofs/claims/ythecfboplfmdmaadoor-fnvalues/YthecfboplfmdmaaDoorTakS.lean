/- A slot is taken: the mathematics in whole numbers, and the model's l3Take. -/
import Derived.Test.YthecfboplfmdmaaDoorByte
namespace Go.Proofs.YthecfboplfmdmaaDoor.TakS
open Go.ChangeShapes Go.WideShapes Go.ChangeAt Go.RowKit Go.Proofs.YthecfboplfmdmaaDoor.Num Go.Proofs.YthecfboplfmdmaaDoor.Sli Go.Proofs.YthecfboplfmdmaaDoor.App Go.Proofs.YthecfboplfmdmaaDoor.Byt Go.Proofs.YthecfboplfmdmaaDoor.CrcM Go.Proofs.YthecfboplfmdmaaDoor.Str Go.Proofs.YthecfboplfmdmaaDoor.Div Go.Proofs.YthecfboplfmdmaaDoor.Dec Go.Proofs.YthecfboplfmdmaaDoor.Blk Go.Proofs.YthecfboplfmdmaaDoor.Nxt Go.Proofs.YthecfboplfmdmaaDoor.Byte

/-- Rest behind k bytes more. -/
def pull (xs : List Int) (a : Nat) (rst : Int) : Nat → Int
  | 0 => rst
  | k + 1 => pull xs a rst k * 256 + xs.getD (a + k) 0
def up (r : Int) : Nat → Int
  | 0 => r
  | k + 1 => up r k * 256
/-- How often a range is lifted. -/
def shI (r : Int) : Nat := if 65536 ≤ r then 0 else if 256 ≤ r then 1 else 2
theorem shI_le (r : Int) : shI r ≤ 2 := by unfold shI; split <;> (try split) <;> omega
theorem up_bd (r : Int) (h1 : 64 ≤ r) (h2 : r ≤ 16777216) (j : Nat) (hj : j ≤ shI r) : 64 ≤ up r j ∧ up r j ≤ 16777216 ∧ (j < shI r → up r j < 65536) ∧ (j = shI r → 65536 ≤ up r j) := by
  have h := shI_le r
  obtain rfl | rfl | rfl : j = 0 ∨ j = 1 ∨ j = 2 := by omega
  · simp only [up]; unfold shI at *; split <;> (try split) <;> omega
  · simp only [up]; unfold shI at *; split <;> (try split) <;> simp_all <;> omega
  · simp only [up]; unfold shI at *; split <;> (try split) <;> simp_all <;> omega
theorem pull_bd (xs : List Int) (hx : BytesL xs) (a : Nat) (rst M : Int) (h1 : 0 ≤ rst) (h2 : rst < M) : ∀ k, 0 ≤ pull xs a rst k ∧ pull xs a rst k < up M k
  | 0 => ⟨h1, h2⟩
  | k + 1 => by
    have := pull_bd xs hx a rst M h1 h2 k
    have := CrcM.getD_bd hx (a + k)
    simp only [pull, up]; omega
/-- A slot that holds the next value holds Rest. -/
theorem slot_in (rst rng lo sz tot : Int) (h1 : 65536 ≤ rng) (h2 : rng ≤ 16777216) (h3 : 1 ≤ tot) (h4 : tot ≤ 1024) (h7 : lo + sz ≤ tot) (h9 : rst < rng)
    (hv1 : lo ≤ nV rst rng tot) (hv2 : nV rst rng tot < lo + sz) : 0 ≤ rst - rng / tot * lo ∧ rst - rng / tot * lo < narI rng lo sz tot := by
  obtain ⟨_, b1, _⟩ := unit_bd rng tot h1 h2 h3 h4
  have ed : narI rng lo sz tot = if lo + sz = tot then rng - rng / tot * lo else rng / tot * sz := rfl
  have ev : nV rst rng tot = min (rst / (rng / tot)) (tot - 1) := rfl
  rw [ev] at hv1 hv2
  rw [ed]
  clear ev ed
  generalize rng / tot = u at *
  have e1 : u * (rst / u) ≤ rst := Int.mul_ediv_self_le (by omega)
  have e2 : rst < u * (rst / u) + u := Int.lt_mul_ediv_self_add (by omega)
  generalize rst / u = q at *
  have hq : lo ≤ q := by omega
  have e3 : u * lo ≤ u * q := Int.mul_le_mul_of_nonneg_left hq (by omega)
  split
  · omega
  · have hq2 : q + 1 ≤ lo + sz := by omega
    have e4 : u * (q + 1) ≤ u * (lo + sz) := Int.mul_le_mul_of_nonneg_left hq2 (by omega)
    rw [Int.mul_add, Int.mul_add] at e4
    omega

/-- What lies in a block of its own stays, whatever turns in another block of another type. -/
theorem ow_apart {k : IntKind} {e base g : Nat} {t : TypeId} {w w' : World} {v : Value} {xs : List Int} {vs : Array Value} (h : Ow k e base w v xs) (hB : Blk w g vs t) (hne : t ≠ e) (hg : w.grownBy w' (some g)) : Ow k e base w' v xs := by
  have h' : w.ownsRow base e 1 v xs.length (xs.map (Value.int k)) := h
  refine h'.kept hg ?_
  rcases h'.2 with ⟨rfl, _⟩ | ⟨g', cap, cur, rfl, _, hgb, _⟩
  · exact .inl rfl
  · refine .inr fun e' => ?_
    obtain rfl : g' = g := by simpa [Value.ownBlock] using e'
    have := (show w.heap[g']? = _ from hB).symm.trans hgb
    simp at this
    exact hne this.2
theorem grown_drew1 {w w' : World} {r : Option Nat} (h : w.grownBy w' r) : w.grownBy w'.drew r := ⟨h.os, h.tape, h.output, h.size, h.block⟩
theorem grown_thenX {w w1 w2 : World} {r : Option Nat} (h : w.grownBy w1 r) (hb : Below w1.heap.size w1 w2) : w.grownBy w2 r :=
  ⟨hb.os.trans h.os, hb.tape.trans h.tape, hb.output.trans h.output, Nat.le_trans h.size hb.size, fun k hk hne => (hb.block k (Nat.lt_of_lt_of_le hk h.size)).trans (h.block k hk hne)⟩
theorem grown_thenD {w w1 w2 : World} {r : Option Nat} (h : w.grownBy w1 r) (hb : Below w1.drew.heap.size w1.drew w2) : w.grownBy w2 r := grown_thenX (grown_drew1 h) hb
theorem Blk.laterD {w w' : World} {b : Nat} {vs : Array Value} {t : TypeId} (h : Blk w b vs t) (hb : Below w.drew.heap.size w.drew w') : Blk w' b vs t := Blk.later (w := w.drew) h hb
def atOf (w : World) (g : Nat) : Int := match w.cell? ⟨g, 1, none⟩ with | some v => intOf v | none => 0
theorem atOf_eq {w : World} {g : Nat} {k : Int} (h : w.cell? ⟨g, 1, none⟩ = some (.int .i64 k)) : atOf w g = k := by unfold atOf; rw [h]; rfl

set_option maxHeartbeats 2000000 in
theorem l3Take_calls (g : Nat) (v : Value) (xs : List Int) (a : Nat) (rst rng lo sz tot : Int) (t : TypeId) (w : World) (hB : Blk w g #[v, .int .i64 a, .int .i64 rst, .int .i64 rng] t) (hs : ∀ w', w.grownBy w' (some g) → Sl .u8 w' v xs) (hx : BytesL xs)
    (h1 : 65536 ≤ rng) (h2 : rng ≤ 16777216) (h3 : 1 ≤ tot) (h4 : tot ≤ 1024) (h5 : 1 ≤ sz) (h6 : 0 ≤ lo) (h7 : lo + sz ≤ tot) (h8 : 0 ≤ rst - rng / tot * lo) (h9 : rst - rng / tot * lo < narI rng lo sz tot) (ha : a ≤ 100000) :
    Calls Tryd.prog 87 #[.pointer (some ⟨g, 0, none⟩), .agg #[.int .i64 lo, .int .i64 sz, .int .i64 tot]] w fun e w' => (∃ r, e = .returned r) ∧
      Blk w' g #[v, .int .i64 ((a + shI (narI rng lo sz tot) : Nat) : Int), .int .i64 (pull xs a (rst - rng / tot * lo) (shI (narI rng lo sz tot))), .int .i64 (up (narI rng lo sz tot) (shI (narI rng lo sz tot)))] t ∧ w.grownBy w' (some g) := by
  obtain ⟨av, capv, rfl, _⟩ := hs w (grown_refl w _)
  obtain ⟨q1, b1, b2⟩ := unit_bd rng tot h1 h2 h3 h4
  obtain ⟨n1, n2, n3⟩ := narI_bd rng lo sz tot h1 h2 h3 h4 h5 h6 h7
  have HN := hid (fun W => l3Narrow_calls rng lo sz tot W h1 h2 h3 h4 h5 h6 h7)
  have HU := hid (up_bd (narI rng lo sz tot) n1 (by omega))
  have HP := hid (pull_bd xs hx a _ _ h8 h9)
  have hK := shI_le (narI rng lo sz tot)
  have hg := hB.lt
  obtain ⟨c0, c1, c2, c3, f0, f1, f2, f3⟩ := (hB.alloc (.cells #[.int .i64 lo, .int .i64 sz, .int .i64 tot] 75)).four
  have HB := hid (hB.alloc (.cells #[.int .i64 lo, .int .i64 sz, .int .i64 tot] 75))
  have HL := hid (Blk.new w #[.int .i64 lo, .int .i64 sz, .int .i64 tot] 75)
  have HG := hid (World.grownBy_alloc w (.cells #[.int .i64 lo, .int .i64 sz, .int .i64 tot] 75) (some g))
  have HS := hid hs
  clear hs hB
  generalize narI rng lo sz tot = N at *
  generalize hKe : shI N = K at *
  clear hKe
  have k1 : IntKind.i64.wrap (rng / tot) = rng / tot := wrapk_of (by omega) (by omega)
  have k2 : IntKind.i64.wrap (rng / tot * lo) = rng / tot * lo := wrapk_of (by omega) (by omega)
  have k3 : IntKind.i64.wrap (rst - rng / tot * lo) = rst - rng / tot * lo := wrapk_of (by omega) (by omega)
  have t0 : ¬ tot = 0 := by omega
  generalize rng / tot = u at *
  generalize hR : rst - u * lo = R at *
  go_enter Tryd.func87, Tryd.ntmps87
  go_wp2_with fail
  obtain ⟨s0, s1, s2, sf0, sf1, sf2⟩ := HL.out.three
  generalize hW : w.alloc (.cells #[.int .i64 lo, .int .i64 sz, .int .i64 tot] 75) = W0 at *
  refine wp_region_noPanic ?_
  refine wp_region_held_drew (S := fun W => W.cell? ⟨g, 3, none⟩ = some (.int .i64 rng) ∧ W.cell? ⟨w.heap.size, 0, none⟩ = some (.int .i64 lo) ∧ W.cell? ⟨w.heap.size, 2, none⟩ = some (.int .i64 tot)) (by kernel_rfl) (by first | exact ⟨c3, s0, s2⟩ | exact ⟨(HB.out.set 2 _).cell 3, (HL.out.other (by omega) 2 _).cell 0, (HL.out.other (by omega) 2 _).cell 2⟩) (fun hHeld => ?_)
  (refine wpAnyH_take (i := 0) (v := ?_) rfl (by kernel_rfl) (by kernel_rfl) (by kernel_rfl) (fun _ _ _ h => h) (Or.inl ⟨by rfl, ?_⟩) hHeld ?_; rotate_left; (intro w hSw; (obtain ⟨s2, s3, s4⟩ := hSw); (go_simp <;> with_reducible rfl)); simp only [List.getElem_toArray, List.getElem_cons_zero, Act.put, List.setIfInBounds_toArray, List.set_cons_zero, List.set_cons_succ])
  (refine wpAnyH_take (i := 1) (v := ?_) rfl (by kernel_rfl) (by kernel_rfl) (by kernel_rfl) (fun _ _ _ h => h) (Or.inl ⟨by rfl, ?_⟩) hHeld ?_; rotate_left; (intro w hSw; (obtain ⟨s2, s3, s4⟩ := hSw); (go_simp <;> with_reducible rfl)); simp only [List.getElem_toArray, List.getElem_cons_zero, List.getElem_cons_succ, Act.put, List.setIfInBounds_toArray, List.set_cons_zero, List.set_cons_succ])
  (refine wpAnyH_take (i := 2) (v := ?_) rfl (by kernel_rfl) (by kernel_rfl) (by kernel_rfl) (fun _ _ _ h => h) (Or.inl ⟨by rfl, ?_⟩) hHeld ?_; rotate_left; (intro w hSw; (obtain ⟨s2, s3, s4⟩ := hSw); (go_simp <;> with_reducible rfl)); simp only [List.getElem_toArray, List.getElem_cons_zero, List.getElem_cons_succ, Act.put, List.setIfInBounds_toArray, List.set_cons_zero, List.set_cons_succ])
  (refine wpAnyH_take (i := 3) (v := ?_) rfl (by kernel_rfl) (by kernel_rfl) (by kernel_rfl) (fun _ _ _ h => h) (Or.inl ⟨by rfl, ?_⟩) hHeld ?_; rotate_left; (intro w hSw; (obtain ⟨s2, s3, s4⟩ := hSw); (go_simp <;> with_reducible rfl)); simp only [List.getElem_toArray, List.getElem_cons_zero, List.getElem_cons_succ, Act.put, List.setIfInBounds_toArray, List.set_cons_zero, List.set_cons_succ])
  (refine wpAnyH_take (i := 5) (v := ?_) rfl (by kernel_rfl) (by kernel_rfl) (by kernel_rfl) (fun _ _ _ h => h) (Or.inl ⟨by rfl, ?_⟩) hHeld ?_; rotate_left; (intro w hSw; (obtain ⟨s2, s3, s4⟩ := hSw); (go_simp <;> with_reducible rfl)); simp only [List.getElem_toArray, List.getElem_cons_zero, List.getElem_cons_succ, Act.put, List.setIfInBounds_toArray, List.set_cons_zero, List.set_cons_succ])
  (refine wpAnyH_take (i := 6) (v := ?_) rfl (by kernel_rfl) (by kernel_rfl) (by kernel_rfl) (fun _ _ _ h => h) (Or.inl ⟨by rfl, ?_⟩) hHeld ?_; rotate_left; (intro w hSw; (obtain ⟨s2, s3, s4⟩ := hSw); (go_simp <;> with_reducible rfl)); simp only [List.getElem_toArray, List.getElem_cons_zero, List.getElem_cons_succ, Act.put, List.setIfInBounds_toArray, List.set_cons_zero, List.set_cons_succ])
  (refine wpAnyH_take (i := 7) (v := ?_) rfl (by kernel_rfl) (by kernel_rfl) (by kernel_rfl) (fun _ _ _ h => h) (Or.inl ⟨by rfl, ?_⟩) hHeld ?_; rotate_left; (intro w hSw; (obtain ⟨s2, s3, s4⟩ := hSw); (go_simp <;> with_reducible rfl)); simp only [List.getElem_toArray, List.getElem_cons_zero, List.getElem_cons_succ, Act.put, List.setIfInBounds_toArray, List.set_cons_zero, List.set_cons_succ])
  (refine wpAnyH_take (i := 8) (v := ?_) rfl (by kernel_rfl) (by kernel_rfl) (by kernel_rfl) (fun _ _ _ h => h) (Or.inl ⟨by rfl, ?_⟩) hHeld ?_; rotate_left; (intro w hSw; (obtain ⟨s2, s3, s4⟩ := hSw); (go_simp <;> with_reducible rfl)); simp only [List.getElem_toArray, List.getElem_cons_zero, List.getElem_cons_succ, Act.put, List.setIfInBounds_toArray, List.set_cons_zero, List.set_cons_succ])
  (refine wpAnyH_take (i := 9) (v := ?_) rfl (by kernel_rfl) (by kernel_rfl) (by kernel_rfl) (fun _ _ _ h => h) (Or.inl ⟨by rfl, ?_⟩) hHeld ?_; rotate_left; (intro w hSw; (obtain ⟨s2, s3, s4⟩ := hSw); (go_simp <;> with_reducible rfl)); simp only [List.getElem_toArray, List.getElem_cons_zero, List.getElem_cons_succ, Act.put, List.setIfInBounds_toArray, List.set_cons_zero, List.set_cons_succ])
  (refine wpAnyH_take (i := 10) (v := ?_) rfl (by kernel_rfl) (by kernel_rfl) (by kernel_rfl) (fun _ _ _ h => h) (Or.inl ⟨by rfl, ?_⟩) hHeld ?_; rotate_left; (intro w hSw; (obtain ⟨s2, s3, s4⟩ := hSw); (go_simp <;> with_reducible rfl)); simp only [List.getElem_toArray, List.getElem_cons_zero, List.getElem_cons_succ, Act.put, List.setIfInBounds_toArray, List.set_cons_zero, List.set_cons_succ])
  (refine wpAnyH_take (i := 11) (v := ?_) rfl (by kernel_rfl) (by kernel_rfl) (by kernel_rfl) (fun _ _ _ h => h) (Or.inl ⟨by rfl, ?_⟩) hHeld ?_; rotate_left; (intro w hSw; (obtain ⟨s2, s3, s4⟩ := hSw); (go_simp <;> with_reducible rfl)); simp only [List.getElem_toArray, List.getElem_cons_zero, List.getElem_cons_succ, Act.put, List.setIfInBounds_toArray, List.set_cons_zero, List.set_cons_succ])
  (refine wpAnyH_take (i := 12) (v := ?_) rfl (by kernel_rfl) (by kernel_rfl) (by kernel_rfl) (fun _ _ _ h => h) (Or.inl ⟨by rfl, ?_⟩) hHeld ?_; rotate_left; (intro w hSw; (obtain ⟨s2, s3, s4⟩ := hSw); (go_simp <;> with_reducible rfl)); simp only [List.getElem_toArray, List.getElem_cons_zero, List.getElem_cons_succ, Act.put, List.setIfInBounds_toArray, List.set_cons_zero, List.set_cons_succ])
  (refine wpAnyH_take (i := 13) (v := ?_) rfl (by kernel_rfl) (by kernel_rfl) (by kernel_rfl) (fun _ _ _ h => h) (Or.inl ⟨by rfl, ?_⟩) hHeld ?_; rotate_left; (intro w hSw; (obtain ⟨s2, s3, s4⟩ := hSw); (go_simp <;> with_reducible rfl)); simp only [List.getElem_toArray, List.getElem_cons_zero, List.getElem_cons_succ, Act.put, List.setIfInBounds_toArray, List.set_cons_zero, List.set_cons_succ])
  (refine wpAnyH_take (i := 14) (v := ?_) rfl (by kernel_rfl) (by kernel_rfl) (by kernel_rfl) (fun _ _ _ h => h) (Or.inl ⟨by rfl, ?_⟩) hHeld ?_; rotate_left; (intro w hSw; (obtain ⟨s2, s3, s4⟩ := hSw); (go_simp <;> with_reducible rfl)); simp only [List.getElem_toArray, List.getElem_cons_zero, List.getElem_cons_succ, Act.put, List.setIfInBounds_toArray, List.set_cons_zero, List.set_cons_succ])
  refine wpAnyH_ready (rs := [4]) (by kernel_rfl) (by simp) ?_
  refine (AllReadyH.cons rfl (fun K hK => ?_) AllReadyH.nil)
  go_simp
  skip
  refine hK.out _ _ (by first | exact ⟨c3, s0, s2⟩ | exact ⟨(HB.out.set 2 _).cell 3, (HL.out.other (by omega) 2 _).cell 0, (HL.out.other (by omega) 2 _).cell 2⟩) (fun hHeld => ?_)
  clear hK K
  try simp only [List.getElem_toArray, List.getElem_cons_zero, List.getElem_cons_succ, Act.put, List.setIfInBounds_toArray, List.set_cons_zero, List.set_cons_succ]
  (refine wpAnyH_take (i := 15) (v := ?_) rfl (by kernel_rfl) (by kernel_rfl) (by kernel_rfl) (fun _ _ _ h => h) (Or.inl ⟨by rfl, ?_⟩) hHeld ?_; rotate_left; (intro w hSw; (obtain ⟨s2, s3, s4⟩ := hSw); (go_simp <;> with_reducible rfl)); simp only [List.getElem_toArray, List.getElem_cons_zero, List.getElem_cons_succ, Act.put, List.setIfInBounds_toArray, List.set_cons_zero, List.set_cons_succ])
  (refine wpAnyH_take (i := 16) (v := ?_) rfl (by kernel_rfl) (by kernel_rfl) (by kernel_rfl) (fun _ _ _ h => h) (Or.inl ⟨by rfl, ?_⟩) hHeld ?_; rotate_left; (intro w hSw; (obtain ⟨s2, s3, s4⟩ := hSw); (go_simp <;> with_reducible rfl)); simp only [List.getElem_toArray, List.getElem_cons_zero, List.getElem_cons_succ, Act.put, List.setIfInBounds_toArray, List.set_cons_zero, List.set_cons_succ])
  (refine wpAnyH_take (i := 17) (v := ?_) rfl (by kernel_rfl) (by kernel_rfl) (by kernel_rfl) (fun _ _ _ h => h) (Or.inl ⟨by rfl, ?_⟩) hHeld ?_; rotate_left; (intro w hSw; (obtain ⟨s2, s3, s4⟩ := hSw); (go_simp <;> with_reducible rfl)); simp only [List.getElem_toArray, List.getElem_cons_zero, List.getElem_cons_succ, Act.put, List.setIfInBounds_toArray, List.set_cons_zero, List.set_cons_succ])
  refine wpAnyH_ready (rs := [18]) (by kernel_rfl) (by simp) ?_
  refine (AllReadyH.cons rfl (fun K hK => ?_) AllReadyH.nil)
  go_simp
  skip
  refine hK.out _ _ (by first | exact ⟨c3, s0, s2⟩ | exact ⟨(HB.out.set 2 _).cell 3, (HL.out.other (by omega) 2 _).cell 0, (HL.out.other (by omega) 2 _).cell 2⟩) (fun hHeld => ?_)
  clear hK K
  try simp only [List.getElem_toArray, List.getElem_cons_zero, List.getElem_cons_succ, Act.put, List.setIfInBounds_toArray, List.set_cons_zero, List.set_cons_succ]
  refine wpAnyH_done (by kernel_rfl) ?_ _
  refine NoPanic.normal ?_
  have HB1 : Hid (Blk (W0.setCell ⟨g, 2, none⟩ (.int .i64 R)).drew g #[.slice av xs.length capv, .int .i64 a, .int .i64 R, .int .i64 rng] t) := HB.out.set 2 _
  have HL1 : Hid (Blk (W0.setCell ⟨g, 2, none⟩ (.int .i64 R)).drew w.heap.size #[.int .i64 lo, .int .i64 sz, .int .i64 tot] 75) := HL.out.other (by omega) 2 _
  have HG1 : Hid (w.grownBy (W0.setCell ⟨g, 2, none⟩ (.int .i64 R)).drew (some g)) := grown_drew1 (grown_same HG.out (grown_set W0 g 2 _))
  clear HB HL HG c0 c1 c2 c3 f0 f1 f2 f3 s0 s1 s2 sf0 sf1 sf2 hW hR
  generalize (W0.setCell ⟨g, 2, none⟩ (.int .i64 R)).drew = W1 at *
  obtain ⟨c0, c1, c2, c3, f0, f1, f2, f3⟩ := HB1.out.four
  obtain ⟨s0, s1, s2, sf0, sf1, sf2⟩ := HL1.out.three
  go_wp2_with fail
  refine wp_region_noPanic ?_
  refine wp_region_held_drew (S := fun W => W.cell? ⟨w.heap.size, 0, none⟩ = some (.int .i64 lo) ∧ W.cell? ⟨w.heap.size, 1, none⟩ = some (.int .i64 sz) ∧ W.cell? ⟨w.heap.size, 2, none⟩ = some (.int .i64 tot)) (by kernel_rfl) (by first | exact ⟨s0, s1, s2⟩ | exact ⟨HL2.out.cell 0, HL2.out.cell 1, HL2.out.cell 2⟩ | exact ⟨(HL2.out.other (by omega) 3 _).cell 0, (HL2.out.other (by omega) 3 _).cell 1, (HL2.out.other (by omega) 3 _).cell 2⟩) (fun hHeld => ?_)
  (refine wpAnyH_take (i := 0) (v := ?_) rfl (by kernel_rfl) (by kernel_rfl) (by kernel_rfl) (fun _ _ _ h => h) (Or.inl ⟨by rfl, ?_⟩) hHeld ?_; rotate_left; (intro w hSw; (obtain ⟨s2, s3, s4⟩ := hSw); (go_simp <;> with_reducible rfl)); simp only [List.getElem_toArray, List.getElem_cons_zero, Act.put, List.setIfInBounds_toArray, List.set_cons_zero, List.set_cons_succ])
  (refine wpAnyH_take (i := 1) (v := ?_) rfl (by kernel_rfl) (by kernel_rfl) (by kernel_rfl) (fun _ _ _ h => h) (Or.inl ⟨by rfl, ?_⟩) hHeld ?_; rotate_left; (intro w hSw; (obtain ⟨s2, s3, s4⟩ := hSw); (go_simp <;> with_reducible rfl)); simp only [List.getElem_toArray, List.getElem_cons_zero, List.getElem_cons_succ, Act.put, List.setIfInBounds_toArray, List.set_cons_zero, List.set_cons_succ])
  (refine wpAnyH_take (i := 2) (v := ?_) rfl (by kernel_rfl) (by kernel_rfl) (by kernel_rfl) (fun _ _ _ h => h) (Or.inl ⟨by rfl, ?_⟩) hHeld ?_; rotate_left; (intro w hSw; (obtain ⟨s2, s3, s4⟩ := hSw); (go_simp <;> with_reducible rfl)); simp only [List.getElem_toArray, List.getElem_cons_zero, List.getElem_cons_succ, Act.put, List.setIfInBounds_toArray, List.set_cons_zero, List.set_cons_succ])
  (refine wpAnyH_take (i := 3) (v := ?_) rfl (by kernel_rfl) (by kernel_rfl) (by kernel_rfl) (fun _ _ _ h => h) (Or.inl ⟨by rfl, ?_⟩) hHeld ?_; rotate_left; (intro w hSw; (obtain ⟨s2, s3, s4⟩ := hSw); (go_simp <;> with_reducible rfl)); simp only [List.getElem_toArray, List.getElem_cons_zero, List.getElem_cons_succ, Act.put, List.setIfInBounds_toArray, List.set_cons_zero, List.set_cons_succ])
  (refine wpAnyH_take (i := 5) (v := ?_) rfl (by kernel_rfl) (by kernel_rfl) (by kernel_rfl) (fun _ _ _ h => h) (Or.inl ⟨by rfl, ?_⟩) hHeld ?_; rotate_left; (intro w hSw; (obtain ⟨s2, s3, s4⟩ := hSw); (go_simp <;> with_reducible rfl)); simp only [List.getElem_toArray, List.getElem_cons_zero, List.getElem_cons_succ, Act.put, List.setIfInBounds_toArray, List.set_cons_zero, List.set_cons_succ])
  refine wpAnyH_ready (rs := [4]) (by kernel_rfl) (by simp) ?_
  refine (AllReadyH.cons rfl (fun K hK => ?_) AllReadyH.nil)
  go_simp
  skip
  refine hK.out _ _ (by first | exact ⟨s0, s1, s2⟩ | exact ⟨HL2.out.cell 0, HL2.out.cell 1, HL2.out.cell 2⟩ | exact ⟨(HL2.out.other (by omega) 3 _).cell 0, (HL2.out.other (by omega) 3 _).cell 1, (HL2.out.other (by omega) 3 _).cell 2⟩) (fun hHeld => ?_)
  clear hK K
  try simp only [List.getElem_toArray, List.getElem_cons_zero, List.getElem_cons_succ, Act.put, List.setIfInBounds_toArray, List.set_cons_zero, List.set_cons_succ]
  refine wpAnyH_ready (rs := [6]) (by kernel_rfl) (by simp) ?_
  refine (AllReadyH.cons rfl (fun K hK => ?_) AllReadyH.nil)
  go_simp
  (refine (HN.out _).mono ?_; rintro e W2 ⟨rfl, hb2⟩; have HB2 := hid (Blk.laterD HB1.out hb2); have HL2 := hid (Blk.laterD HL1.out hb2); have HG2 := hid (grown_thenD HG1.out hb2); obtain ⟨d0, d1, d2, d3, e0, e1, e2, e3⟩ := HB2.out.four)
  refine hK.out _ _ (by first | exact ⟨s0, s1, s2⟩ | exact ⟨HL2.out.cell 0, HL2.out.cell 1, HL2.out.cell 2⟩ | exact ⟨(HL2.out.other (by omega) 3 _).cell 0, (HL2.out.other (by omega) 3 _).cell 1, (HL2.out.other (by omega) 3 _).cell 2⟩) (fun hHeld => ?_)
  clear hK K
  try dsimp only
  (refine wpAnyH_take (i := 7) (v := ?_) rfl (by kernel_rfl) (by kernel_rfl) (by kernel_rfl) (fun _ _ _ h => h) (Or.inl ⟨by rfl, ?_⟩) hHeld ?_; rotate_left; (intro w hSw; (obtain ⟨s2, s3, s4⟩ := hSw); (go_simp <;> with_reducible rfl)); simp only [List.getElem_toArray, List.getElem_cons_zero, List.getElem_cons_succ, Act.put, List.setIfInBounds_toArray, List.set_cons_zero, List.set_cons_succ])
  (refine wpAnyH_take (i := 8) (v := ?_) rfl (by kernel_rfl) (by kernel_rfl) (by kernel_rfl) (fun _ _ _ h => h) (Or.inl ⟨by rfl, ?_⟩) hHeld ?_; rotate_left; (intro w hSw; (obtain ⟨s2, s3, s4⟩ := hSw); (go_simp <;> with_reducible rfl)); simp only [List.getElem_toArray, List.getElem_cons_zero, List.getElem_cons_succ, Act.put, List.setIfInBounds_toArray, List.set_cons_zero, List.set_cons_succ])
  refine wpAnyH_ready (rs := [9]) (by kernel_rfl) (by simp) ?_
  refine (AllReadyH.cons rfl (fun K hK => ?_) AllReadyH.nil)
  go_simp
  skip
  refine hK.out _ _ (by first | exact ⟨s0, s1, s2⟩ | exact ⟨HL2.out.cell 0, HL2.out.cell 1, HL2.out.cell 2⟩ | exact ⟨(HL2.out.other (by omega) 3 _).cell 0, (HL2.out.other (by omega) 3 _).cell 1, (HL2.out.other (by omega) 3 _).cell 2⟩) (fun hHeld => ?_)
  clear hK K
  try simp only [List.getElem_toArray, List.getElem_cons_zero, List.getElem_cons_succ, Act.put, List.setIfInBounds_toArray, List.set_cons_zero, List.set_cons_succ]
  refine wpAnyH_done (by kernel_rfl) ?_ _
  refine NoPanic.normal ?_
  have HB3 : Hid (Blk (W2.setCell ⟨g, 3, none⟩ (.int .i64 N)) g #[.slice av xs.length capv, .int .i64 a, .int .i64 R, .int .i64 N] t) := HB2.out.set 3 _
  have HG3 : Hid (w.grownBy (W2.setCell ⟨g, 3, none⟩ (.int .i64 N)) (some g)) := grown_same HG2.out (grown_set W2 g 3 _)
  clear HB1 HL1 HG1 HB2 HL2 HG2 c0 c1 c2 c3 f0 f1 f2 f3 s0 s1 s2 sf0 sf1 sf2 d0 d1 d2 d3 e0 e1 e2 e3 hb2 HN
  generalize (W2.setCell ⟨g, 3, none⟩ (.int .i64 N)) = W3 at *
  go_wp2_with fail
  go_loopw [] (fun wr => ∃ j m : Nat, j ≤ K ∧ Hid (m = a + j) ∧ Hid (Blk wr g #[.slice av xs.length capv, .int .i64 (m : Int), .int .i64 (pull xs a R j), .int .i64 (up N j)] t) ∧ Hid (w.grownBy wr (some g))) (fun wr => a + K - (atOf wr g).toNat)
  case atStart => exact ⟨0, a, Nat.zero_le _, rfl, HB3.out, HG3.out⟩
  case round =>
    obtain ⟨j, m, hj, hm, hb, hgr⟩ := hrel
    have hm0 : m ≤ 100002 := by have := hm.out; omega
    obtain ⟨c0, c1, c2, c3, f0, f1, f2, f3⟩ := hb.out.four
    obtain ⟨u1, u2, u3, u4⟩ := HU.out j hj
    obtain ⟨p1, p2⟩ := HP.out j
    have Hm := hid (atOf_eq c1)
    by_cases hjk : j < K
    · have u5 := u3 hjk
      have hsl := HS.out _ hgr.out
      have HSl := hid hsl
      have HB5 := hid (fun k => CrcM.getD_bd hx k)
      have hbd := HB5.out m
      have Hp : Hid (pull xs a R (j + 1) = pull xs a R j * 256 + xs.getD m 0) := by rw [hm.out]; rfl
      have Hu : Hid (up N (j + 1) = up N j * 256) := rfl
      have Hc := hid (l3Byte_calls _ xs m wr.drew hsl hx)
      clear hsl
      clear u3 u4 HB3 HG3 HU HP HB5
      generalize up N j = U at *
      generalize pull xs a R j = Pj at *
      generalize xs.getD m 0 = X at *
      have k1 : IntKind.i64.wrap (Pj * 256) = Pj * 256 := wrapk_of (by omega) (by omega)
      have k2 : IntKind.i64.wrap (Pj * 256 + X) = Pj * 256 + X := wrapk_of (by omega) (by omega)
      go_wp2_with fail
      refine wp_region_noPanic ?_
      refine wp_region_held_drew (S := fun W => W.cell? ⟨g, 0, none⟩ = some (.slice av xs.length capv) ∧ W.cell? ⟨g, 1, none⟩ = some (.int .i64 (m : Int))) (by kernel_rfl) (by first | exact ⟨c0, c1⟩ | exact ⟨(hb.out.set 2 _).cell 0, (hb.out.set 2 _).cell 1⟩) (fun hHeld => ?_)
      (refine wpAnyH_take (i := 0) (v := ?_) rfl (by kernel_rfl) (by kernel_rfl) (by kernel_rfl) (fun _ _ _ h => h) (Or.inl ⟨by rfl, ?_⟩) hHeld ?_; rotate_left; (intro w hSw; (obtain ⟨s2, s3⟩ := hSw); (go_simp <;> with_reducible rfl)); simp only [List.getElem_toArray, List.getElem_cons_zero, Act.put, List.setIfInBounds_toArray, List.set_cons_zero, List.set_cons_succ])
      (refine wpAnyH_take (i := 1) (v := ?_) rfl (by kernel_rfl) (by kernel_rfl) (by kernel_rfl) (fun _ _ _ h => h) (Or.inl ⟨by rfl, ?_⟩) hHeld ?_; rotate_left; (intro w hSw; (obtain ⟨s2, s3⟩ := hSw); (go_simp <;> with_reducible rfl)); simp only [List.getElem_toArray, List.getElem_cons_zero, List.getElem_cons_succ, Act.put, List.setIfInBounds_toArray, List.set_cons_zero, List.set_cons_succ])
      (refine wpAnyH_take (i := 2) (v := ?_) rfl (by kernel_rfl) (by kernel_rfl) (by kernel_rfl) (fun _ _ _ h => h) (Or.inl ⟨by rfl, ?_⟩) hHeld ?_; rotate_left; (intro w hSw; (obtain ⟨s2, s3⟩ := hSw); (go_simp <;> with_reducible rfl)); simp only [List.getElem_toArray, List.getElem_cons_zero, List.getElem_cons_succ, Act.put, List.setIfInBounds_toArray, List.set_cons_zero, List.set_cons_succ])
      (refine wpAnyH_take (i := 3) (v := ?_) rfl (by kernel_rfl) (by kernel_rfl) (by kernel_rfl) (fun _ _ _ h => h) (Or.inl ⟨by rfl, ?_⟩) hHeld ?_; rotate_left; (intro w hSw; (obtain ⟨s2, s3⟩ := hSw); (go_simp <;> with_reducible rfl)); simp only [List.getElem_toArray, List.getElem_cons_zero, List.getElem_cons_succ, Act.put, List.setIfInBounds_toArray, List.set_cons_zero, List.set_cons_succ])
      (refine wpAnyH_take (i := 6) (v := ?_) rfl (by kernel_rfl) (by kernel_rfl) (by kernel_rfl) (fun _ _ _ h => h) (Or.inl ⟨by rfl, ?_⟩) hHeld ?_; rotate_left; (intro w hSw; (obtain ⟨s2, s3⟩ := hSw); (go_simp <;> with_reducible rfl)); simp only [List.getElem_toArray, List.getElem_cons_zero, List.getElem_cons_succ, Act.put, List.setIfInBounds_toArray, List.set_cons_zero, List.set_cons_succ])
      (refine wpAnyH_take (i := 7) (v := ?_) rfl (by kernel_rfl) (by kernel_rfl) (by kernel_rfl) (fun _ _ _ h => h) (Or.inl ⟨by rfl, ?_⟩) hHeld ?_; rotate_left; (intro w hSw; (obtain ⟨s2, s3⟩ := hSw); (go_simp <;> with_reducible rfl)); simp only [List.getElem_toArray, List.getElem_cons_zero, List.getElem_cons_succ, Act.put, List.setIfInBounds_toArray, List.set_cons_zero, List.set_cons_succ])
      (refine wpAnyH_take (i := 8) (v := ?_) rfl (by kernel_rfl) (by kernel_rfl) (by kernel_rfl) (fun _ _ _ h => h) (Or.inl ⟨by rfl, ?_⟩) hHeld ?_; rotate_left; (intro w hSw; (obtain ⟨s2, s3⟩ := hSw); (go_simp <;> with_reducible rfl)); simp only [List.getElem_toArray, List.getElem_cons_zero, List.getElem_cons_succ, Act.put, List.setIfInBounds_toArray, List.set_cons_zero, List.set_cons_succ])
      (refine wpAnyH_take (i := 9) (v := ?_) rfl (by kernel_rfl) (by kernel_rfl) (by kernel_rfl) (fun _ _ _ h => h) (Or.inl ⟨by rfl, ?_⟩) hHeld ?_; rotate_left; (intro w hSw; (obtain ⟨s2, s3⟩ := hSw); (go_simp <;> with_reducible rfl)); simp only [List.getElem_toArray, List.getElem_cons_zero, List.getElem_cons_succ, Act.put, List.setIfInBounds_toArray, List.set_cons_zero, List.set_cons_succ])
      (refine wpAnyH_take (i := 10) (v := ?_) rfl (by kernel_rfl) (by kernel_rfl) (by kernel_rfl) (fun _ _ _ h => h) (Or.inl ⟨by rfl, ?_⟩) hHeld ?_; rotate_left; (intro w hSw; (obtain ⟨s2, s3⟩ := hSw); (go_simp <;> with_reducible rfl)); simp only [List.getElem_toArray, List.getElem_cons_zero, List.getElem_cons_succ, Act.put, List.setIfInBounds_toArray, List.set_cons_zero, List.set_cons_succ])
      (refine wpAnyH_take (i := 11) (v := ?_) rfl (by kernel_rfl) (by kernel_rfl) (by kernel_rfl) (fun _ _ _ h => h) (Or.inl ⟨by rfl, ?_⟩) hHeld ?_; rotate_left; (intro w hSw; (obtain ⟨s2, s3⟩ := hSw); (go_simp <;> with_reducible rfl)); simp only [List.getElem_toArray, List.getElem_cons_zero, List.getElem_cons_succ, Act.put, List.setIfInBounds_toArray, List.set_cons_zero, List.set_cons_succ])
      (refine wpAnyH_take (i := 12) (v := ?_) rfl (by kernel_rfl) (by kernel_rfl) (by kernel_rfl) (fun _ _ _ h => h) (Or.inl ⟨by rfl, ?_⟩) hHeld ?_; rotate_left; (intro w hSw; (obtain ⟨s2, s3⟩ := hSw); (go_simp <;> with_reducible rfl)); simp only [List.getElem_toArray, List.getElem_cons_zero, List.getElem_cons_succ, Act.put, List.setIfInBounds_toArray, List.set_cons_zero, List.set_cons_succ])
      (refine wpAnyH_take (i := 13) (v := ?_) rfl (by kernel_rfl) (by kernel_rfl) (by kernel_rfl) (fun _ _ _ h => h) (Or.inl ⟨by rfl, ?_⟩) hHeld ?_; rotate_left; (intro w hSw; (obtain ⟨s2, s3⟩ := hSw); (go_simp <;> with_reducible rfl)); simp only [List.getElem_toArray, List.getElem_cons_zero, List.getElem_cons_succ, Act.put, List.setIfInBounds_toArray, List.set_cons_zero, List.set_cons_succ])
      refine wpAnyH_ready (rs := [4, 14]) (by kernel_rfl) (by simp) ?_
      refine (AllReadyH.cons rfl (fun K hK => ?_) (AllReadyH.cons rfl (fun K hK => ?_) AllReadyH.nil))
      · go_simp
        skip
        refine hK.out _ _ (by first | exact ⟨c0, c1⟩ | exact ⟨(hb.out.set 2 _).cell 0, (hb.out.set 2 _).cell 1⟩) (fun hHeld => ?_)
        clear hK K
        try simp only [List.getElem_toArray, List.getElem_cons_zero, List.getElem_cons_succ, Act.put, List.setIfInBounds_toArray, List.set_cons_zero, List.set_cons_succ]
        (refine wpAnyH_take (i := 5) (v := ?_) rfl (by kernel_rfl) (by kernel_rfl) (by kernel_rfl) (fun _ _ _ h => h) (Or.inl ⟨by rfl, ?_⟩) hHeld ?_; rotate_left; (intro w hSw; (obtain ⟨s2, s3⟩ := hSw); (go_simp <;> with_reducible rfl)); simp only [List.getElem_toArray, List.getElem_cons_zero, List.getElem_cons_succ, Act.put, List.setIfInBounds_toArray, List.set_cons_zero, List.set_cons_succ])
        refine wpAnyH_ready (rs := [14]) (by kernel_rfl) (by simp) ?_
        refine (AllReadyH.cons rfl (fun K hK => ?_) AllReadyH.nil)
        go_simp
        (refine Hc.out.mono ?_; rintro e W2 ⟨rfl, rfl⟩)
        refine hK.out _ _ (by first | exact ⟨c0, c1⟩ | exact ⟨(hb.out.set 2 _).cell 0, (hb.out.set 2 _).cell 1⟩) (fun hHeld => ?_)
        clear hK K
        try dsimp only
        (refine wpAnyH_take (i := 15) (v := ?_) rfl (by kernel_rfl) (by kernel_rfl) (by kernel_rfl) (fun _ _ _ h => h) (Or.inl ⟨by rfl, ?_⟩) hHeld ?_; rotate_left; (intro w hSw; (obtain ⟨s2, s3⟩ := hSw); (go_simp <;> with_reducible rfl)); simp only [List.getElem_toArray, List.getElem_cons_zero, List.getElem_cons_succ, Act.put, List.setIfInBounds_toArray, List.set_cons_zero, List.set_cons_succ])
        (refine wpAnyH_take (i := 16) (v := ?_) rfl (by kernel_rfl) (by kernel_rfl) (by kernel_rfl) (fun _ _ _ h => h) (Or.inl ⟨by rfl, ?_⟩) hHeld ?_; rotate_left; (intro w hSw; (obtain ⟨s2, s3⟩ := hSw); (go_simp <;> with_reducible rfl)); simp only [List.getElem_toArray, List.getElem_cons_zero, List.getElem_cons_succ, Act.put, List.setIfInBounds_toArray, List.set_cons_zero, List.set_cons_succ])
        (refine wpAnyH_take (i := 17) (v := ?_) rfl (by kernel_rfl) (by kernel_rfl) (by kernel_rfl) (fun _ _ _ h => h) (Or.inl ⟨by rfl, ?_⟩) hHeld ?_; rotate_left; (intro w hSw; (obtain ⟨s2, s3⟩ := hSw); (go_simp <;> with_reducible rfl)); simp only [List.getElem_toArray, List.getElem_cons_zero, List.getElem_cons_succ, Act.put, List.setIfInBounds_toArray, List.set_cons_zero, List.set_cons_succ])
        refine wpAnyH_ready (rs := [18]) (by kernel_rfl) (by simp) ?_
        refine (AllReadyH.cons rfl (fun K hK => ?_) AllReadyH.nil)
        go_simp
        skip
        refine hK.out _ _ (by first | exact ⟨c0, c1⟩ | exact ⟨(hb.out.set 2 _).cell 0, (hb.out.set 2 _).cell 1⟩) (fun hHeld => ?_)
        clear hK K
        try simp only [List.getElem_toArray, List.getElem_cons_zero, List.getElem_cons_succ, Act.put, List.setIfInBounds_toArray, List.set_cons_zero, List.set_cons_succ]
        refine wpAnyH_done (by kernel_rfl) ?_ _
        refine NoPanic.normal ?_
        have HB5 : Hid (Blk (wr.setCell ⟨g, 2, none⟩ (.int .i64 (Pj * 256 + X))).drew g #[.slice av xs.length capv, .int .i64 (m : Int), .int .i64 (Pj * 256 + X), .int .i64 U] t) := hb.out.set 2 _
        have HG5 : Hid (w.grownBy (wr.setCell ⟨g, 2, none⟩ (.int .i64 (Pj * 256 + X))).drew (some g)) := grown_drew1 (grown_same hgr.out (grown_set wr g 2 _))
        clear hHeld c0 c1 c2 c3 f0 f1 f2 f3 hb hgr HSl Hc
        generalize (wr.setCell ⟨g, 2, none⟩ (.int .i64 (Pj * 256 + X))).drew = W5 at *
        obtain ⟨c0, c1, c2, c3, f0, f1, f2, f3⟩ := HB5.out.four
        go_wp2
        go_roundw
        case rel => exact ⟨j + 1, m + 1, by omega, (by have := hm.out; unfold Hid; omega), (by have := (HB5.out.set 3 (.int .i64 (U * 256))).set 1 (.int .i64 ((m : Int) + 1)); rw [Hp.out, Hu.out]; exact this), grown_same (grown_same HG5.out (grown_set _ g 3 _)) (grown_set _ g 1 _)⟩
        case measure => rw [Hm.out, atOf_eq (((HB5.out.set 3 (.int .i64 (U * 256))).set 1 (.int .i64 ((m : Int) + 1))).cell 1)]; have := hm.out; omega
      · go_simp
        (refine Hc.out.mono ?_; rintro e W2 ⟨rfl, rfl⟩)
        refine hK.out _ _ (by first | exact ⟨c0, c1⟩ | exact ⟨(hb.out.set 2 _).cell 0, (hb.out.set 2 _).cell 1⟩) (fun hHeld => ?_)
        clear hK K
        try dsimp only
        refine wpAnyH_ready (rs := [4]) (by kernel_rfl) (by simp) ?_
        refine (AllReadyH.cons rfl (fun K hK => ?_) AllReadyH.nil)
        go_simp
        skip
        refine hK.out _ _ (by first | exact ⟨c0, c1⟩ | exact ⟨(hb.out.set 2 _).cell 0, (hb.out.set 2 _).cell 1⟩) (fun hHeld => ?_)
        clear hK K
        try simp only [List.getElem_toArray, List.getElem_cons_zero, List.getElem_cons_succ, Act.put, List.setIfInBounds_toArray, List.set_cons_zero, List.set_cons_succ]
        (refine wpAnyH_take (i := 5) (v := ?_) rfl (by kernel_rfl) (by kernel_rfl) (by kernel_rfl) (fun _ _ _ h => h) (Or.inl ⟨by rfl, ?_⟩) hHeld ?_; rotate_left; (intro w hSw; (obtain ⟨s2, s3⟩ := hSw); (go_simp <;> with_reducible rfl)); simp only [List.getElem_toArray, List.getElem_cons_zero, List.getElem_cons_succ, Act.put, List.setIfInBounds_toArray, List.set_cons_zero, List.set_cons_succ])
        (refine wpAnyH_take (i := 15) (v := ?_) rfl (by kernel_rfl) (by kernel_rfl) (by kernel_rfl) (fun _ _ _ h => h) (Or.inl ⟨by rfl, ?_⟩) hHeld ?_; rotate_left; (intro w hSw; (obtain ⟨s2, s3⟩ := hSw); (go_simp <;> with_reducible rfl)); simp only [List.getElem_toArray, List.getElem_cons_zero, List.getElem_cons_succ, Act.put, List.setIfInBounds_toArray, List.set_cons_zero, List.set_cons_succ])
        (refine wpAnyH_take (i := 16) (v := ?_) rfl (by kernel_rfl) (by kernel_rfl) (by kernel_rfl) (fun _ _ _ h => h) (Or.inl ⟨by rfl, ?_⟩) hHeld ?_; rotate_left; (intro w hSw; (obtain ⟨s2, s3⟩ := hSw); (go_simp <;> with_reducible rfl)); simp only [List.getElem_toArray, List.getElem_cons_zero, List.getElem_cons_succ, Act.put, List.setIfInBounds_toArray, List.set_cons_zero, List.set_cons_succ])
        (refine wpAnyH_take (i := 17) (v := ?_) rfl (by kernel_rfl) (by kernel_rfl) (by kernel_rfl) (fun _ _ _ h => h) (Or.inl ⟨by rfl, ?_⟩) hHeld ?_; rotate_left; (intro w hSw; (obtain ⟨s2, s3⟩ := hSw); (go_simp <;> with_reducible rfl)); simp only [List.getElem_toArray, List.getElem_cons_zero, List.getElem_cons_succ, Act.put, List.setIfInBounds_toArray, List.set_cons_zero, List.set_cons_succ])
        refine wpAnyH_ready (rs := [18]) (by kernel_rfl) (by simp) ?_
        refine (AllReadyH.cons rfl (fun K hK => ?_) AllReadyH.nil)
        go_simp
        skip
        refine hK.out _ _ (by first | exact ⟨c0, c1⟩ | exact ⟨(hb.out.set 2 _).cell 0, (hb.out.set 2 _).cell 1⟩) (fun hHeld => ?_)
        clear hK K
        try simp only [List.getElem_toArray, List.getElem_cons_zero, List.getElem_cons_succ, Act.put, List.setIfInBounds_toArray, List.set_cons_zero, List.set_cons_succ]
        refine wpAnyH_done (by kernel_rfl) ?_ _
        refine NoPanic.normal ?_
        have HB5 : Hid (Blk (wr.setCell ⟨g, 2, none⟩ (.int .i64 (Pj * 256 + X))).drew g #[.slice av xs.length capv, .int .i64 (m : Int), .int .i64 (Pj * 256 + X), .int .i64 U] t) := hb.out.set 2 _
        have HG5 : Hid (w.grownBy (wr.setCell ⟨g, 2, none⟩ (.int .i64 (Pj * 256 + X))).drew (some g)) := grown_drew1 (grown_same hgr.out (grown_set wr g 2 _))
        clear hHeld c0 c1 c2 c3 f0 f1 f2 f3 hb hgr HSl Hc
        generalize (wr.setCell ⟨g, 2, none⟩ (.int .i64 (Pj * 256 + X))).drew = W5 at *
        obtain ⟨c0, c1, c2, c3, f0, f1, f2, f3⟩ := HB5.out.four
        go_wp2
        go_roundw
        case rel => exact ⟨j + 1, m + 1, by omega, (by have := hm.out; unfold Hid; omega), (by have := (HB5.out.set 3 (.int .i64 (U * 256))).set 1 (.int .i64 ((m : Int) + 1)); rw [Hp.out, Hu.out]; exact this), grown_same (grown_same HG5.out (grown_set _ g 3 _)) (grown_set _ g 1 _)⟩
        case measure => rw [Hm.out, atOf_eq (((HB5.out.set 3 (.int .i64 (U * 256))).set 1 (.int .i64 ((m : Int) + 1))).cell 1)]; have := hm.out; omega
    · have hje : j = K := by omega
      subst hje
      have u5 := u4 rfl
      clear u3 u4 HU HP HB3 HG3
      have hmj := hm.out
      subst hmj
      go_wp2
      exact bodyPost_end (v := .tuple #[]) (by simp [results, Tryd.results87, go_sem]) rfl ⟨⟨_, rfl⟩, hb.out, hgr.out⟩
end Go.Proofs.YthecfboplfmdmaaDoor.TakS
