/- The program's coder takes one slot. -/
import Derived.Test.YthecfboplfmdmaaDoorShf
import Derived.Test.YthecfboplfmdmaaDoorRndF
import Derived.Maps.AppendAt
import Derived.Deep.CutBlock
namespace Go.Proofs.YthecfboplfmdmaaDoor.Nar
open Go.ChangeShapes Go.WideShapes Go.ChangeAt Go.RowKit Go.Proofs.YthecfboplfmdmaaDoor.Num Go.Proofs.YthecfboplfmdmaaDoor.Sli Go.Proofs.YthecfboplfmdmaaDoor.App Go.Proofs.YthecfboplfmdmaaDoor.Byt Go.Proofs.YthecfboplfmdmaaDoor.CrcM Go.Proofs.YthecfboplfmdmaaDoor.Str Go.Proofs.YthecfboplfmdmaaDoor.Div Go.Proofs.YthecfboplfmdmaaDoor.Dec Go.Proofs.YthecfboplfmdmaaDoor.Blk Go.Proofs.YthecfboplfmdmaaDoor.Nxt Go.Proofs.YthecfboplfmdmaaDoor.Byte Go.Proofs.YthecfboplfmdmaaDoor.TakS Go.Proofs.YthecfboplfmdmaaDoor.TakT Go.Proofs.YthecfboplfmdmaaDoor.RngF Go.Proofs.YthecfboplfmdmaaDoor.RndF Go.Proofs.YthecfboplfmdmaaDoor.RangeM Go.Proofs.YthecfboplfmdmaaDoor.CarM Go.Proofs.YthecfboplfmdmaaDoor.Shf
attribute [local go_sem] Oper.semAt_some

theorem app_one {base : Nat} {W : World} {u : Value} {xs : List Int} {b : Int} (ty : TypeId) (h : OwB base W u xs) (hbase : base ≤ W.heap.size) (hlen : xs.length ≤ 100000) :
    ∃ gc cc w1, (Builtin.append_ #[22, 22] ty #[u, .slice (some ⟨W.heap.size, 0, none⟩) 1 1]).run Tryd.prog (W.alloc (.cells #[.int .u8 b] 5)) = .ok (.slice (some ⟨gc, 0, none⟩) (xs.length + 1) cc) w1 ∧
      OwB base w1 (.slice (some ⟨gc, 0, none⟩) (xs.length + 1) cc) (xs ++ [b]) ∧ (W.alloc (.cells #[.int .u8 b] 5)).grownBy w1 u.ownBlock ∧ (u.ownBlock = some gc ∨ gc = W.heap.size + 1) := by
  obtain ⟨i0, hi, hz0, hz1, hz2⟩ := info_parts infoB
  have h' : W.ownsRow base 5 1 u xs.length (xs.map (Value.int .u8)) := h
  obtain ⟨v', w', hrun, hown, hg, _, hbl⟩ := run_append_own_at (W.alloc (.cells #[.int .u8 b] 5)) base 22 ty 5 i0 (.int .u8 0) 1 1 Tryd.underlying22 hi hz0 hz1 hz2 rfl (by decide) u xs.length (xs.map (Value.int .u8)) (h'.alloc _) ⟨W.heap.size, 0, none⟩ 1 1 [.int .u8 b] rfl
    (by intro j x hj; cases j with
      | zero => simp at hj; subst hj; simp [Addr.add]
      | succ j => simp at hj) (by simp [Value.oneCell']) (by rw [show maxLen = 9223372036854775807 by decide]; omega) (by omega) (by simp; omega)
  obtain ⟨gc, cc, rfl⟩ := ownsRow_succ hown
  refine ⟨gc, cc, w', hrun, ?_, hg, ?_⟩
  rotate_left
  · rcases hbl with h1 | h1
    · left; rw [← h1]; rfl
    · right; simpa [Value.ownBlock] using h1
  show w'.ownsRow base 5 1 _ (xs ++ [b]).length ((xs ++ [b]).map (Value.int .u8))
  rw [List.length_append, List.map_append]
  exact hown

theorem start_nat (r : Nat) (s : Sn) : ((r : Int) / (s.tot : Int) * (s.lo : Int)) = ((r / s.tot * s.lo : Nat) : Int) := by
  rw [Int.natCast_mul, Int.natCast_ediv]
theorem nar_nat (r : Nat) (s : Sn) (hs : s.ok) : narI (r : Int) s.lo s.sz s.tot = ((nar r s : Nat) : Int) := by
  have hle := nar_le (r := r) hs
  unfold narI nar at *
  by_cases h : s.lo + s.sz = s.tot
  · rw [if_pos (by omega), if_pos h, start_nat]
    rw [if_pos h] at hle
    omega
  · rw [if_neg (by omega), if_neg h, Int.natCast_mul, Int.natCast_ediv]
/-- A carry or none: the number with what was added. -/
theorem mid_parts (n p : Nat) : ((n % 16777216 + p < 16777216 → (n + p) / 16777216 = n / 16777216 ∧ (n + p) % 16777216 = n % 16777216 + p) ∧ (16777216 ≤ n % 16777216 + p → p ≤ 16777216 → (n + p) / 16777216 = n / 16777216 + 1 ∧ (n + p) % 16777216 = n % 16777216 + p - 16777216)) := by
  omega

/-- The coder in block g. -/
structure CS (base g : Nat) (e : En) (v : Value) (W : World) : Prop where
  b : Blk W g #[v, .int .i64 ((e.n % 16777216 : Nat) : Int), .int .i64 (e.r : Int)] 81
  o : OwB base W v (digs e.k (e.n / 16777216))

theorem own_ne {base g : Nat} {W : World} {u : Value} {xs : List Int} {vs : Array Value} {t : TypeId} (h : OwB base W u xs) (hB : Blk W g vs t) (ht : t ≠ 5) : u.ownBlock ≠ some g := by
  intro e
  have h' : W.ownsRow base 5 1 u xs.length (xs.map (Value.int .u8)) := h
  rcases h'.2 with ⟨rfl, _⟩ | ⟨g', c', cur, rfl, _, hgb, _⟩
  · simp [Value.ownBlock] at e
  · obtain rfl : g' = g := by simpa [Value.ownBlock] using e
    have := (show W.heap[g']? = _ from hB).symm.trans hgb
    simp at this
    exact ht this.2
theorem blk_inj {W : World} {g : Nat} {vs us : Array Value} {t u : TypeId} (h : Blk W g vs t) (k : Blk W g us u) : vs = us := by
  have := (show W.heap[g]? = _ from h).symm.trans k
  simp at this
  exact this.1
theorem sh_facts (N s : Nat) (h1 : 64 ≤ N) (h2 : N ≤ 16777216) (hs : s ≤ sh N) : (s < sh N ↔ N * 256 ^ s < 65536) ∧ 1 ≤ N * 256 ^ s ∧ N * 256 ^ s ≤ 16777216 ∧ s ≤ 2 := by
  unfold sh at *
  split at hs
  · obtain rfl : s = 0 := by omega
    rw [if_pos (by assumption)]; simp; omega
  · rw [if_neg (by assumption)]
    split at hs
    · rw [if_pos (by assumption)]
      obtain rfl | rfl : s = 0 ∨ s = 1 := by omega
      all_goals simp; omega
    · rw [if_neg (by assumption)]
      obtain rfl | rfl | rfl : s = 0 ∨ s = 1 ∨ s = 2 := by omega
      all_goals simp; omega
/-- Behind s bytes that were told. -/
structure NJ (base g pb qb : Nat) (w : World) (k n N s : Nat) (u : Value) (W : World) : Prop where
  c : CS base g ⟨k + s, n * 256 ^ s, N * 256 ^ s⟩ u W
  p : Blk W pb #[.pointer (some ⟨g, 0, none⟩)] 99
  q : Blk W qb #[.pointer (some ⟨g, 0, none⟩)] 99
  l : Below base w W
  le : s ≤ sh N
  nb : ∀ j, u.ownBlock = some j → j ≠ qb + 1 ∧ j ≠ qb + 1 + 1
/-- A byte is yielded. -/
structure NI (base g pb qb : Nat) (w : World) (k n N s : Nat) (x : Int) (u : Value) (W : World) : Prop where
  x : x = ((n * 256 ^ s % 16777216 / 65536 : Nat) : Int)
  b : Blk W g #[u, .int .i64 ((n * 256 ^ (s + 1) % 16777216 : Nat) : Int), .int .i64 ((N * 256 ^ (s + 1) : Nat) : Int)] 81
  o : OwB base W u (digs (k + s) (n * 256 ^ s / 16777216))
  p : Blk W pb #[.pointer (some ⟨g, 0, none⟩)] 99
  q : Blk W qb #[.pointer (some ⟨g, 0, none⟩)] 99
  l : Below base w W
  lt : s < sh N
  nb : ∀ j, u.ownBlock = some j → j ≠ qb + 1 ∧ j ≠ qb + 1 + 1
section
variable {base g p q k n N s : Nat} {w W W' : World} {u : Value} {x : Int}
theorem NJ.put (h : NJ base g p q w k n N s u W) {l : Nat} {o : Obj} (hl : W.heap[l]? = some o) (ho : o.isCells = false) (hb : base ≤ l) (o' : Obj) : NJ base g p q w k n N s u (W.putObj l o') :=
  ⟨⟨h.c.b.put hl ho o', Ow.put h.c.o hl ho o'⟩, h.p.put hl ho o', h.q.put hl ho o', below_put h.l hl hb o', h.le, h.nb⟩
theorem NI.put (h : NI base g p q w k n N s x u W) {l : Nat} {o : Obj} (hl : W.heap[l]? = some o) (ho : o.isCells = false) (hb : base ≤ l) (o' : Obj) : NI base g p q w k n N s x u (W.putObj l o') :=
  ⟨h.x, h.b.put hl ho o', Ow.put h.o hl ho o', h.p.put hl ho o', h.q.put hl ho o', below_put h.l hl hb o', h.lt, h.nb⟩
theorem NJ.later (h : NJ base g p q w k n N s u W) (hb : Below W.heap.size W W') (hw : base ≤ W.heap.size) : NJ base g p q w k n N s u W' :=
  ⟨⟨h.c.b.later hb, h.c.o.later hb⟩, h.p.later hb, h.q.later hb, h.l.trans (hb.mono hw), h.le, h.nb⟩
theorem NJ.shift (h : NJ base g p q w k n N s u W) (hlt : s < sh N) (hb : Blk W' g #[u, .int .i64 (((n * 256 ^ s % 16777216 : Nat) : Int) % 65536 * 256), .int .i64 (((N * 256 ^ s : Nat) : Int) * 256)] 81) (hg : W.grownBy W' (some g)) (hbg : base ≤ g) (hp : g ≠ p) (hq : g ≠ q) :
    NI base g p q w k n N s (((n * 256 ^ s % 16777216 : Nat) : Int) / 65536) u W' := by
  have e1 := (shift_out (k + s) (n * 256 ^ s)).2
  rw [Nat.mul_assoc, ← Nat.pow_succ] at e1
  refine ⟨by omega, ?_, ow_apart h.c.o h.c.b (by decide) hg, h.p.kept hg (by simpa using hp), h.q.kept hg (by simpa using hq), ?_, hlt, h.nb⟩
  · rw [e1, Nat.pow_succ, ← Nat.mul_assoc, Int.natCast_mul, Int.natCast_mul, Int.natCast_emod]
    exact hb
  · exact h.l.trans (below_of_grown hg (by have := h.c.b.lt; omega) (fun j e => by cases e; exact hbg))
theorem NI.appended {gc cc : Nat} {o : Obj} {w1 : World} (h : NI base g p q w k n N s x u W) (ho : OwB base w1 (.slice (some ⟨gc, 0, none⟩) (k + s + 1) cc) (digs (k + s) (n * 256 ^ s / 16777216) ++ [x])) (hg : (W.drew.alloc o).grownBy w1 u.ownBlock) (hgc : u.ownBlock = some gc ∨ gc = W.heap.size + 1) (hqs : q + 1 + 1 < W.heap.size) (hbg : base ≤ g) (hp : g ≠ p) (hq : g ≠ q) :
    NJ base g p q w k n N (s + 1) (.slice (some ⟨gc, 0, none⟩) (k + s + 1) cc) (w1.setCell ⟨g, 0, none⟩ (.slice (some ⟨gc, 0, none⟩) (k + s + 1) cc)) := by
  have e1 := shift_out (k + s) (n * 256 ^ s)
  rw [Nat.mul_assoc, ← Nat.pow_succ] at e1
  rw [h.x, ← e1.1] at ho
  have hb1 : Blk w1 g _ _ := ((h.b.drew 1).alloc o).kept hg (own_ne h.o h.b (by decide))
  have hs := grown_set w1 g 0 (.slice (some ⟨gc, 0, none⟩) (k + s + 1) cc)
  refine ⟨⟨hb1.set 0 _, ow_apart ho hb1 (by decide) hs⟩, ?_, ?_, ?_, h.lt, ?_⟩
  · exact (((h.p.drew 1).alloc o).kept hg (own_ne h.o h.p (by decide))).other hp _ _
  · exact (((h.q.drew 1).alloc o).kept hg (own_ne h.o h.q (by decide))).other hq _ _
  · have hl : Below base w (W.drew.alloc o) := (drewB h.l).alloc (by have := h.b.lt; show base ≤ W.heap.size; omega) o
    exact below_cell (hl.trans (below_of_grown hg (by have := h.b.lt; simp; omega) (fun j e => (h.o.block j e).1))) hbg _ _
  · intro j e
    obtain rfl : gc = j := by simpa [Value.ownBlock] using e
    rcases hgc with h1 | h1
    · exact h.nb _ h1
    · omega
end
attribute [-go_sem] Builtin.append_
set_option maxRecDepth 100000 in
set_option maxHeartbeats 2000000 in
theorem narrow_calls (base g : Nat) (e : En) (s : Sn) (v : Value) (w : World) (h : CS base g e v w) (he : e.ok) (hs : s.ok) (hk : e.k ≤ 90000) (hbg : base ≤ g) :
    Calls Tryd.prog 52 #[.pointer (some ⟨g, 0, none⟩), .agg #[.int .i64 s.lo, .int .i64 s.sz, .int .i64 s.tot]] w fun e' w' => (∃ r, e' = .returned r) ∧ ∃ v', CS base g (e.step s) v' w' ∧ Below base w w' := by
  obtain ⟨t1, t2, t3, t4⟩ := hs
  obtain ⟨r1, r2, r3⟩ := he
  have hgw := h.b.lt
  obtain ⟨n1, n2, n3⟩ := narI_bd e.r s.lo s.sz s.tot (by omega) (by omega) (by omega) (by omega) (by omega) (by omega) (by omega)
  have HPt := hid (fun W => partOf_calls e.r s.lo s.sz s.tot W (by omega) (by omega) (by omega) (by omega) (by omega) (by omega) (by omega))
  have hst := start_nat e.r s
  have hna := nar_nat e.r s ⟨t1, t2, t3, t4⟩
  have hnle := nar_le (r := e.r) (s := s) ⟨t1, t2, t3, t4⟩
  have hn64 := (nar_big (s := s) ⟨t1, t2, t3, t4⟩ r1).1
  simp only [hst, hna] at HPt
  have Hstep : Hid (e.step s = ⟨e.k + sh (nar e.r s), (e.n + e.r / s.tot * s.lo) * 256 ^ sh (nar e.r s), lift (nar e.r s)⟩) := rfl
  rw [Hstep.out]
  clear hst hna n1 n2 n3 Hstep
  generalize e.r / s.tot * s.lo = P at *
  generalize nar e.r s = N at *
  have HS := hid (h.b.alloc (.cells #[.pointer (some ⟨g, 0, none⟩)] 99) |>.alloc (.cells #[.int .i64 s.lo, .int .i64 s.sz, .int .i64 s.tot] 75))
  have HO := hid ((h.o.alloc (.cells #[.pointer (some ⟨g, 0, none⟩)] 99)).alloc (.cells #[.int .i64 s.lo, .int .i64 s.sz, .int .i64 s.tot] 75))
  have HP := hid ((Blk.new w #[.pointer (some ⟨g, 0, none⟩)] 99).alloc (.cells #[.int .i64 s.lo, .int .i64 s.sz, .int .i64 s.tot] 75))
  have hl := Blk.new (w.alloc (.cells #[.pointer (some ⟨g, 0, none⟩)] 99)) #[.int .i64 s.lo, .int .i64 s.sz, .int .i64 s.tot] 75
  rw [World.size_alloc] at hl
  have HL := hid hl
  have HB := hid (((Below.refl base w).alloc (by omega) (.cells #[.pointer (some ⟨g, 0, none⟩)] 99)).alloc (by simp; omega) (.cells #[.int .i64 s.lo, .int .i64 s.sz, .int .i64 s.tot] 75))
  obtain ⟨av, cv, rfl, hxx⟩ := h.o.sl
  rw [digs_len] at *
  clear h hl hxx
  refine calls_of_marks Tryd.func52 rfl ?_
  simp only [Tryd.ntmps52, List.size_toArray, List.length_cons, List.length_nil, Nat.reduceAdd, Nat.reduceSub, Array.replicate_succ, Array.replicate_zero, List.push_toArray, List.append_toArray, List.nil_append, List.cons_append]
  go_wp2_with fail
  generalize (w.alloc (.cells #[.pointer (some ⟨g, 0, none⟩)] 99)).alloc (.cells #[.int .i64 s.lo, .int .i64 s.sz, .int .i64 s.tot] 75) = w1 at *
  have hH : Blk w1.drew g #[.slice av e.k cv, .int .i64 ((e.n % 16777216 : Nat) : Int), .int .i64 (e.r : Int)] 81 ∧ Blk w1.drew w.heap.size #[.pointer (some ⟨g, 0, none⟩)] 99 ∧ Blk w1.drew (w.heap.size + 1) #[.int .i64 s.lo, .int .i64 s.sz, .int .i64 s.tot] 75 ∧ OwB base w1.drew (.slice av e.k cv) (digs e.k (e.n / 16777216)) ∧ Below base w w1.drew ∧ w.heap.size + 2 ≤ w1.drew.heap.size :=
    ⟨HS.out, HP.out, HL.out, HO.out, drewB HB.out, HL.out.lt⟩
  clear HS HP HL HO HB
  refine wp_region_noPanic ?_
  refine wp_region_held_drew (S := fun W => Blk W g #[.slice av e.k cv, .int .i64 ((e.n % 16777216 : Nat) : Int), .int .i64 (e.r : Int)] 81 ∧ Blk W w.heap.size #[.pointer (some ⟨g, 0, none⟩)] 99 ∧ Blk W (w.heap.size + 1) #[.int .i64 s.lo, .int .i64 s.sz, .int .i64 s.tot] 75 ∧ OwB base W (.slice av e.k cv) (digs e.k (e.n / 16777216)) ∧ Below base w W ∧ w.heap.size + 2 ≤ W.heap.size) (by kernel_rfl) ?_ (fun hHeld => ?_)
  · assumption
  (refine wpAnyH_take (i := 0) (v := ?_) rfl (by kernel_rfl) (by kernel_rfl) (by kernel_rfl) (fun _ _ _ h => h) (Or.inl ⟨by rfl, ?_⟩) hHeld ?_; rotate_left; (intro w hSw; (obtain ⟨a0, a1, a2, _⟩ := hSw.1.three; have p0 := hSw.2.1.cell 0; simp only [List.getElem?_toArray, List.getElem?_cons_zero] at p0; obtain ⟨b0, b1, b2, _⟩ := hSw.2.2.1.three; clear hSw); (go_simp <;> with_reducible rfl)); simp only [List.getElem_toArray, List.getElem_cons_zero, Act.put, List.setIfInBounds_toArray, List.set_cons_zero, List.set_cons_succ])
  (refine wpAnyH_take (i := 1) (v := ?_) rfl (by kernel_rfl) (by kernel_rfl) (by kernel_rfl) (fun _ _ _ h => h) (Or.inl ⟨by rfl, ?_⟩) hHeld ?_; rotate_left; (intro w hSw; (obtain ⟨a0, a1, a2, _⟩ := hSw.1.three; have p0 := hSw.2.1.cell 0; simp only [List.getElem?_toArray, List.getElem?_cons_zero] at p0; obtain ⟨b0, b1, b2, _⟩ := hSw.2.2.1.three; clear hSw); (go_simp <;> with_reducible rfl)); simp only [List.getElem_toArray, List.getElem_cons_zero, List.getElem_cons_succ, Act.put, List.setIfInBounds_toArray, List.set_cons_zero, List.set_cons_succ])
  (refine wpAnyH_take (i := 2) (v := ?_) rfl (by kernel_rfl) (by kernel_rfl) (by kernel_rfl) (fun _ _ _ h => h) (Or.inl ⟨by rfl, ?_⟩) hHeld ?_; rotate_left; (intro w hSw; (obtain ⟨a0, a1, a2, _⟩ := hSw.1.three; have p0 := hSw.2.1.cell 0; simp only [List.getElem?_toArray, List.getElem?_cons_zero] at p0; obtain ⟨b0, b1, b2, _⟩ := hSw.2.2.1.three; clear hSw); (go_simp <;> with_reducible rfl)); simp only [List.getElem_toArray, List.getElem_cons_zero, List.getElem_cons_succ, Act.put, List.setIfInBounds_toArray, List.set_cons_zero, List.set_cons_succ])
  (refine wpAnyH_take (i := 3) (v := ?_) rfl (by kernel_rfl) (by kernel_rfl) (by kernel_rfl) (fun _ _ _ h => h) (Or.inl ⟨by rfl, ?_⟩) hHeld ?_; rotate_left; (intro w hSw; (obtain ⟨a0, a1, a2, _⟩ := hSw.1.three; have p0 := hSw.2.1.cell 0; simp only [List.getElem?_toArray, List.getElem?_cons_zero] at p0; obtain ⟨b0, b1, b2, _⟩ := hSw.2.2.1.three; clear hSw); (go_simp <;> with_reducible rfl)); simp only [List.getElem_toArray, List.getElem_cons_zero, List.getElem_cons_succ, Act.put, List.setIfInBounds_toArray, List.set_cons_zero, List.set_cons_succ])
  (refine wpAnyH_take (i := 4) (v := ?_) rfl (by kernel_rfl) (by kernel_rfl) (by kernel_rfl) (fun _ _ _ h => h) (Or.inl ⟨by rfl, ?_⟩) hHeld ?_; rotate_left; (intro w hSw; (obtain ⟨a0, a1, a2, _⟩ := hSw.1.three; have p0 := hSw.2.1.cell 0; simp only [List.getElem?_toArray, List.getElem?_cons_zero] at p0; obtain ⟨b0, b1, b2, _⟩ := hSw.2.2.1.three; clear hSw); (go_simp <;> with_reducible rfl)); simp only [List.getElem_toArray, List.getElem_cons_zero, List.getElem_cons_succ, Act.put, List.setIfInBounds_toArray, List.set_cons_zero, List.set_cons_succ])
  (refine wpAnyH_ready (rs := [5]) (by kernel_rfl) (by simp) ?_; refine AllReadyH.cons rfl (fun K hK => ?_) AllReadyH.nil; go_simp; (refine (HPt.out _).mono ?_; rintro e' w2 ⟨rfl, hb2⟩; have hK' := And.intro (hHeld.1.later hb2) (And.intro (hHeld.2.1.later hb2) (And.intro (hHeld.2.2.1.later hb2) (And.intro (hHeld.2.2.2.1.later hb2) (And.intro (hHeld.2.2.2.2.1.trans (hb2.mono (Nat.le_trans (by omega) hHeld.2.2.2.2.2))) (Nat.le_trans hHeld.2.2.2.2.2 hb2.size)))))); refine hK.out _ _ ?_ (fun hHeld => ?_); (assumption); clear hK K; try dsimp only)
  (refine wpAnyH_take (i := 6) (v := ?_) rfl (by kernel_rfl) (by kernel_rfl) (by kernel_rfl) (fun _ _ _ h => h) (Or.inl ⟨by rfl, ?_⟩) hHeld ?_; rotate_left; (intro w hSw; (obtain ⟨a0, a1, a2, _⟩ := hSw.1.three; have p0 := hSw.2.1.cell 0; simp only [List.getElem?_toArray, List.getElem?_cons_zero] at p0; obtain ⟨b0, b1, b2, _⟩ := hSw.2.2.1.three; clear hSw); (go_simp <;> with_reducible rfl)); simp only [List.getElem_toArray, List.getElem_cons_zero, List.getElem_cons_succ, Act.put, List.setIfInBounds_toArray, List.set_cons_zero, List.set_cons_succ])
  (refine wpAnyH_take (i := 7) (v := ?_) rfl (by kernel_rfl) (by kernel_rfl) (by kernel_rfl) (fun _ _ _ h => h) (Or.inl ⟨by rfl, ?_⟩) hHeld ?_; rotate_left; (intro w hSw; (obtain ⟨a0, a1, a2, _⟩ := hSw.1.three; have p0 := hSw.2.1.cell 0; simp only [List.getElem?_toArray, List.getElem?_cons_zero] at p0; obtain ⟨b0, b1, b2, _⟩ := hSw.2.2.1.three; clear hSw); (go_simp <;> with_reducible rfl)); simp only [List.getElem_toArray, List.getElem_cons_zero, List.getElem_cons_succ, Act.put, List.setIfInBounds_toArray, List.set_cons_zero, List.set_cons_succ])
  (refine wpAnyH_take (i := 8) (v := ?_) rfl (by kernel_rfl) (by kernel_rfl) (by kernel_rfl) (fun _ _ _ h => h) (Or.inl ⟨by rfl, ?_⟩) hHeld ?_; rotate_left; (intro w hSw; (obtain ⟨a0, a1, a2, _⟩ := hSw.1.three; have p0 := hSw.2.1.cell 0; simp only [List.getElem?_toArray, List.getElem?_cons_zero] at p0; obtain ⟨b0, b1, b2, _⟩ := hSw.2.2.1.three; clear hSw); (go_simp <;> with_reducible rfl)); simp only [List.getElem_toArray, List.getElem_cons_zero, List.getElem_cons_succ, Act.put, List.setIfInBounds_toArray, List.set_cons_zero, List.set_cons_succ])
  (refine wpAnyH_take (i := 9) (v := ?_) rfl (by kernel_rfl) (by kernel_rfl) (by kernel_rfl) (fun _ _ _ h => h) (Or.inl ⟨by rfl, ?_⟩) hHeld ?_; rotate_left; (intro w hSw; (obtain ⟨a0, a1, a2, _⟩ := hSw.1.three; have p0 := hSw.2.1.cell 0; simp only [List.getElem?_toArray, List.getElem?_cons_zero] at p0; obtain ⟨b0, b1, b2, _⟩ := hSw.2.2.1.three; clear hSw); (go_simp <;> with_reducible rfl)); simp only [List.getElem_toArray, List.getElem_cons_zero, List.getElem_cons_succ, Act.put, List.setIfInBounds_toArray, List.set_cons_zero, List.set_cons_succ])
  (refine wpAnyH_take (i := 10) (v := ?_) rfl (by kernel_rfl) (by kernel_rfl) (by kernel_rfl) (fun _ _ _ h => h) (Or.inl ⟨by rfl, ?_⟩) hHeld ?_; rotate_left; (intro w hSw; (obtain ⟨a0, a1, a2, _⟩ := hSw.1.three; have p0 := hSw.2.1.cell 0; simp only [List.getElem?_toArray, List.getElem?_cons_zero] at p0; obtain ⟨b0, b1, b2, _⟩ := hSw.2.2.1.three; clear hSw); (go_simp <;> with_reducible rfl)); simp only [List.getElem_toArray, List.getElem_cons_zero, List.getElem_cons_succ, Act.put, List.setIfInBounds_toArray, List.set_cons_zero, List.set_cons_succ])
  refine wpAnyH_done (by kernel_rfl) ?_ _
  refine NoPanic.normal ?_
  obtain ⟨k1, k2, k3, k4, k5, k6⟩ := hHeld
  clear hH hK' hb2 HPt k3 hHeld
  have hmp := mid_parts e.n P
  have hml : e.n % 16777216 < 16777216 := Nat.mod_lt _ (by decide)
  obtain ⟨a0, a1, a2, af0, af1, af2⟩ := k1.three
  have p0 := k2.cell 0
  simp only [List.getElem?_toArray, List.getElem?_cons_zero] at p0
  have K1 := hid k1
  have K2 := hid k2
  have K4 := hid k4
  have K5 := hid k5
  clear k1 k2 k4 k5
  generalize hL : e.n % 16777216 = L at *
  have HL := hid hL
  clear hL
  go_upto_if 32 with fail
  have hcar : 16777216 ≤ L + P → e.n / 16777216 + 1 < 256 ^ e.k := by
    intro hc
    have h1 := (hmp.2 hc (by omega)).1
    have h2 : e.n + P < 256 ^ e.k * 16777216 := by omega
    have h3 : (e.n + P) / 16777216 < 256 ^ e.k := Nat.div_lt_of_lt_mul (by rw [Nat.mul_comm]; exact h2)
    omega
  have Hcar := hid hcar
  have Hmp := hid hmp
  have hP0 : (P : Int) ≤ 16777216 := by omega
  have hL0 : (L : Int) < 16777216 := by omega
  have hN : N ≤ 16777216 := by omega
  clear hcar hmp hml hnle r3
  generalize hH1 : e.n / 16777216 = H1 at *
  generalize hH2 : (e.n + P) / 16777216 = H2 at *
  generalize hL2 : (e.n + P) % 16777216 = L2 at *
  have G1 := hid hH1
  have G2 := hid hH2
  have G3 := hid hL2
  clear hH1 hH2 hL2
  have HB3 : Hid (Blk ((w2.setCell ⟨g, 1, none⟩ (.int .i64 ((L : Int) + P))).setCell ⟨g, 2, none⟩ (.int .i64 (N : Int))) g #[.slice av e.k cv, .int .i64 ((L : Int) + P), .int .i64 (N : Int)] 81) := (K1.out.set 1 _).set 2 _
  have hg3 : w2.grownBy ((w2.setCell ⟨g, 1, none⟩ (.int .i64 ((L : Int) + P))).setCell ⟨g, 2, none⟩ (.int .i64 (N : Int))) (some g) := grown_same (grown_set w2 g 1 _) (grown_set _ g 2 _)
  have HP3 := hid (K2.out.kept hg3 (by simp; omega))
  have HO3 := hid (ow_apart K4.out K1.out (by decide) hg3)
  have HW3 := hid (K5.out.trans (below_of_grown hg3 (by omega) (fun j e => by cases e; exact hbg)))
  have hz3 : w.heap.size + 2 ≤ ((w2.setCell ⟨g, 1, none⟩ (.int .i64 ((L : Int) + P))).setCell ⟨g, 2, none⟩ (.int .i64 (N : Int))).heap.size := Nat.le_trans k6 hg3.size
  have hbw : base ≤ w.heap.size := by omega
  clear K1 K2 K4 K5 hg3 k6 a0 a1 a2 af0 af1 af2 p0
  generalize (w2.setCell ⟨g, 1, none⟩ (.int .i64 ((L : Int) + P))).setCell ⟨g, 2, none⟩ (.int .i64 (N : Int)) = w3 at *
  generalize hX : (L : Int) + P = X at *
  have HX := hid hX
  have hX0 : 0 ≤ X := by omega
  have hX1 : X ≤ 33554432 := by omega
  have Hc2 := hid (show 16777216 ≤ L + P ↔ 16777216 ≤ X by omega)
  have HPL := hid (show P ≤ 16777216 by omega)
  clear hX hP0 hL0
  go_cut [] from 32 to 44 (fun wc => ∃ v', Hid (Blk wc g #[v', .int .i64 ((L2 : Nat) : Int), .int .i64 (N : Int)] 81) ∧ Hid (OwB base wc v' (digs e.k H2)) ∧ Hid (Blk wc w.heap.size #[.pointer (some ⟨g, 0, none⟩)] 99) ∧ Hid (Below base w wc) ∧ Hid (w.heap.size + 2 ≤ wc.heap.size))
  case first =>
    obtain ⟨a0, a1, a2, af0, af1, af2⟩ := HB3.out.three
    have p0 := HP3.out.cell 0
    simp only [List.getElem?_toArray, List.getElem?_cons_zero] at p0
    by_cases hc' : 16777216 ≤ X
    · have hc := Hc2.out.2 hc'
      obtain ⟨m1, m2⟩ := Hmp.out.2 hc HPL.out
      have hk2 := Hcar.out hc
      have hk0 : 0 < e.k := by
        rcases Nat.eq_zero_or_pos e.k with h0 | h0
        · rw [h0] at hk2; simp at hk2
        · exact h0
      obtain ⟨gc, hav⟩ : ∃ gc, av = some ⟨gc, 0, none⟩ := by
        have hrow : w3.ownsRow base 5 1 (.slice av e.k cv) (digs e.k (H1)).length ((digs e.k (H1)).map (Value.int .u8)) := HO3.out
        rw [digs_len] at hrow
        obtain ⟨k', hk'⟩ : ∃ k', e.k = k' + 1 := ⟨e.k - 1, by omega⟩
        rw [hk'] at hrow
        obtain ⟨gc, cc, hgc⟩ := ownsRow_succ hrow
        exact ⟨gc, by injection hgc⟩
      have HAv := hid hav
      clear hav
      have HO4 := hid (ow_apart HO3.out HB3.out (by decide) (grown_set w3 g 1 (.int .i64 (X - 16777216))))
      have HB4 := hid (HB3.out.set 1 (.int .i64 (X - 16777216)))
      have HC := hid (carry_calls base gc cv e.k (H1) _ (by have := HO4.out; rw [HAv.out] at this; exact this) hk2 (by omega))
      rw [← HAv.out] at HC
      have HP4 := hid (HP3.out.other (b' := g) (by omega) 1 (.int .i64 (X - 16777216)))
      have HW4 := hid (below_cell HW3.out hbg 1 (.int .i64 (X - 16777216)))
      have M1 := hid m1
      have M2 := hid m2
      have Hc := hid hc
      have hz4 := hid hz3
      clear m1 m2 hc hk2 hn64 r1 r2 hz3
      go_wp2_with fail
      refine HC.out.mono ?_
      rintro e' w4 ⟨⟨_, rfl⟩, ho5, hg5⟩
      have HO4' := HO4.out
      rw [HAv.out] at HO4'
      have hgc5 := own_blk HO4' HB4.out (by decide)
      have hgcp := own_blk HO4' HP4.out (by decide)
      have hgb := (HO4'.block gc rfl).1
      have HB5 := hid (HB4.out.kept hg5 (by simpa using hgc5))
      have HP5 := hid (HP4.out.kept hg5 (by simpa using hgcp))
      have HO5 := hid ho5
      have HW5 := hid (HW4.out.trans (below_of_grown hg5 (by have := (grown_set w3 g 1 (.int .i64 (X - 16777216))).size; have := hz4.out; omega) (fun j e => by cases e; exact hgb)))
      have hz5 := hid (show w.heap.size + 2 ≤ w4.heap.size by have h1 := (grown_set w3 g 1 (.int .i64 (X - 16777216))).size; have h2 := hg5.size; have h3 := hz4.out; omega)
      clear ho5 hg5 HB4 HP4 HO4 HW4 HC
      go_wp2_with fail
      go_meet
      case rel => exact ⟨_, (by rw [M2.out]; have e1 : ((L + P - 16777216 : Nat) : Int) = X - 16777216 := (by have h1 := HX.out; have h2 := Hc.out; omega); rw [e1]; exact HB5.out), (by rw [M1.out]; exact HO5.out), HP5.out, HW5.out, hz5.out⟩
    · have hc : ¬ 16777216 ≤ L + P := fun h => hc' (Hc2.out.1 h)
      replace hc' : X < 16777216 := by omega
      obtain ⟨m1, m2⟩ := Hmp.out.1 (by omega)
      have M1 := hid m1
      have M2 := hid m2
      have hz4 := hid hz3
      clear m1 m2 hc hn64 r1 r2 hz3
      go_wp2_with fail
      go_meet
      case rel => exact ⟨_, (by rw [M2.out]; have e1 : ((L + P : Nat) : Int) = X := (by have := HX.out; omega); rw [e1]; exact HB3.out), (by rw [M1.out]; exact HO3.out), HP3.out, HW3.out, hz4.out⟩
  case rest =>
    obtain ⟨v', hb, ho, hp, hw, hz⟩ := hcut
    obtain ⟨av', cv', rfl, hxx⟩ := ho.out.sl
    rw [digs_len] at *
    clear hxx HB3 HP3 HO3 HW3 hz3
    have p0 := hp.out.cell 0
    simp only [List.getElem?_toArray, List.getElem?_cons_zero] at p0
    go_wp2_with fail
    refine (settled_calls g wc).mono ?_
    rintro e' w5 ⟨rfl, rfl⟩
    have HJ0 : Hid (NJ base g w.heap.size wc.heap.size w e.k (e.n + P) N 0 (.slice av' e.k cv') (wc.alloc (.cells #[.pointer (some ⟨g, 0, none⟩)] 99))) := by
      refine ⟨⟨?_, ?_⟩, hp.out.alloc _, Blk.new _ _ _, hw.out.alloc (by have := hz.out; omega) _, Nat.zero_le _, ?_⟩
      rotate_left 2
      · intro j e; have := (ho.out.block j e).2; omega
      · have := hb.out.alloc (.cells #[.pointer (some ⟨g, 0, none⟩)] 99)
        rw [← G3.out] at this
        simpa using this
      · have := ho.out.alloc (.cells #[.pointer (some ⟨g, 0, none⟩)] 99)
        rw [← G2.out] at this
        simpa using this
    have hsz : (wc.alloc (.cells #[.pointer (some ⟨g, 0, none⟩)] 99)).heap.size = wc.heap.size + 1 := by simp
    have hq : w.heap.size < wc.heap.size := by have := hz.out; omega
    clear hb ho hp hw hz p0
    go_wp2_with fail
    generalize wc.alloc (.cells #[.pointer (some ⟨g, 0, none⟩)] 99) = W0 at *
    generalize wc.heap.size = q at *
    have hsz' : q + 1 = W0.heap.size := hsz.symm
    clear hsz
    refine wp_range (α := Int) (σ := Nat) (gf := 90) (lb := #[.pointer (some ⟨q, 0, none⟩)]) rfl (enters_of Tryd.func90 (by kernel_rfl) rfl) (fun x => #[.int .u8 x]) (fun _ => rfl)
      (fun s x W => ∃ u, NI base g w.heap.size q w e.k (e.n + P) N s x u W)
      (fun s _ W => ∃ u, NJ base g w.heap.size q w e.k (e.n + P) N (s + 1) u W)
      (fun _ _ _ _ => False)
      (fun W => ∃ u, NJ base g w.heap.size q w e.k (e.n + P) N (sh N) u W)
      (fun _ _ => False)
      (fun s x W o o' ⟨u, h⟩ hl => ⟨u, h.put hl rfl (by omega) _⟩) (fun s x W o o' ⟨u, h⟩ hl => ⟨u, h.put hl rfl (by omega) _⟩) (fun _ _ _ _ _ _ h _ => h.elim)
      ?_ ?assign ?body ?iter ?done (fun _ _ _ _ h => h.elim)
    case assign =>
      intro x W K hK
      gi_wp2
      exact hK
    case body =>
      rintro s x W hlt ⟨u, hni⟩
      have hshl := (sh_facts N s hn64 hN (Nat.le_of_lt hni.lt)).2.2.2
      obtain ⟨c0, c1, c2, f0, f1, f2⟩ := hni.b.three
      have p0 := hni.p.cell 0
      simp only [List.getElem?_toArray, List.getElem?_cons_zero] at p0
      obtain ⟨gc, cc, w1, hrun, ho1, hg1, hgc1⟩ := app_one (W := W.drew) (b := x) 22 (show OwB base W.drew _ _ from hni.o) (show base ≤ W.heap.size by omega) (by rw [digs_len]; omega)
      rw [digs_len] at hrun ho1
      replace hrun : (Builtin.append_ #[22, 22] 22 #[u, .slice (some ⟨W.heap.size, 0, none⟩) 1 1]).run Tryd.prog (W.alloc (.cells #[.int .u8 x] 5)).drew = _ := hrun
      have A1 := (hni.b.alloc (.cells #[.int .u8 x] 5)).drew 1
      have A2 := (hni.p.alloc (.cells #[.int .u8 x] 5)).drew 1
      have a0 : (W.alloc (.cells #[.int .u8 x] 5)).drew.cell? ⟨g, 0, none⟩ = some u := A1.cell 0
      have a1 : (W.alloc (.cells #[.int .u8 x] 5)).drew.cell? ⟨w.heap.size, 0, none⟩ = some (.pointer (some ⟨g, 0, none⟩)) := A2.cell 0
      clear A1 A2
      have HNJ := hid (hni.appended ho1 hg1 hgc1 (by omega) hbg (by omega) (by omega))
      have hbl := hni.b.lt
      have b1 : Blk w1 g _ _ := ((hni.b.drew 1).alloc _).kept hg1 (own_ne hni.o hni.b (by decide))
      have q1 : Blk w1 w.heap.size _ _ := ((hni.p.drew 1).alloc _).kept hg1 (own_ne hni.o hni.p (by decide))
      obtain ⟨d0, d1, d2, e0, e1, e2⟩ := b1.three
      have q0 := q1.cell 0
      simp only [List.getElem?_toArray, List.getElem?_cons_zero] at q0
      have hgq : g ≠ W0.heap.size ∧ g ≠ W0.heap.size + 1 := by omega
      have HK : Hid (Kp2 W0.heap.size W (w1.setCell ⟨g, 0, none⟩ (.slice (some ⟨gc, 0, none⟩) (e.k + s + 1) cc))) := by
        have k1 : Kp2 W0.heap.size W (W.drew.alloc (.cells #[.int .u8 x] 5)) := Kp2.below (bmore (drewB (Below.refl _ W)) _) hlt
        refine (k1.trans (Kp2.grown hg1 (by simp; omega) ?_)).trans (Kp2.set _ _ _ _ hgq)
        rw [← hsz']
        exact hni.nb
      have z0 := HNJ.out.p.cell 0
      simp only [List.getElem?_toArray, List.getElem?_cons_zero] at z0
      clear b1 q1 hg1 ho1 hgc1 hni HJ0 Hcar Hmp G1 G2 G3 HX Hc2 HPL hshl hbl c1 c2 f1 f2 d1 d2 e1 e2 hn64 hN r1 r2 hsz' hq hX0 hX1 HL hgw
      gi_wp2_with fail
      refine region_round (S := fun W => W.cell? ⟨w.heap.size, 0, none⟩ = some (.pointer (some ⟨g, 0, none⟩))) (by kernel_rfl) (by kernel_rfl) (fun ⟨_, _, h⟩ => h) (by first | exact p0 | exact a1 | exact q0 | exact z0) (fun hHeld => ?_)
      (refine wpAnyH_take (i := 0) (v := ?_) rfl (by kernel_rfl) (by kernel_rfl) (by kernel_rfl) (fun _ _ _ h => h) (Or.inl ⟨by rfl, ?_⟩) hHeld ?_; rotate_left; (intro w hSw; skip; (go_simp <;> with_reducible rfl)); simp only [List.getElem_toArray, List.getElem_cons_zero, Act.put, List.setIfInBounds_toArray, List.set_cons_zero, List.set_cons_succ])
      (refine wpAnyH_take (i := 1) (v := ?_) rfl (by kernel_rfl) (by kernel_rfl) (by kernel_rfl) (fun _ _ _ h => h) (Or.inl ⟨by rfl, ?_⟩) hHeld ?_; rotate_left; (intro w hSw; skip; (go_simp <;> with_reducible rfl)); simp only [List.getElem_toArray, List.getElem_cons_zero, List.getElem_cons_succ, Act.put, List.setIfInBounds_toArray, List.set_cons_zero, List.set_cons_succ])
      (refine wpAnyH_take (i := 2) (v := ?_) rfl (by kernel_rfl) (by kernel_rfl) (by kernel_rfl) (fun _ _ _ h => h) (Or.inl ⟨by rfl, ?_⟩) hHeld ?_; rotate_left; (intro w hSw; skip; (go_simp <;> with_reducible rfl)); simp only [List.getElem_toArray, List.getElem_cons_zero, List.getElem_cons_succ, Act.put, List.setIfInBounds_toArray, List.set_cons_zero, List.set_cons_succ])
      (refine wpAnyH_take (i := 3) (v := ?_) rfl (by kernel_rfl) (by kernel_rfl) (by kernel_rfl) (fun _ _ _ h => h) (Or.inl ⟨by rfl, ?_⟩) hHeld ?_; rotate_left; (intro w hSw; skip; (go_simp <;> with_reducible rfl)); simp only [List.getElem_toArray, List.getElem_cons_zero, List.getElem_cons_succ, Act.put, List.setIfInBounds_toArray, List.set_cons_zero, List.set_cons_succ])
      (refine wpAnyH_take (i := 5) (v := ?_) rfl (by kernel_rfl) (by kernel_rfl) (by kernel_rfl) (fun _ _ _ h => h) (Or.inl ⟨by rfl, ?_⟩) hHeld ?_; rotate_left; (intro w hSw; skip; (go_simp <;> with_reducible rfl)); simp only [List.getElem_toArray, List.getElem_cons_zero, List.getElem_cons_succ, Act.put, List.setIfInBounds_toArray, List.set_cons_zero, List.set_cons_succ])
      refine wpAnyH_ready (rs := [4, 6]) (by kernel_rfl) (by simp) ?_
      refine (AllReadyH.cons rfl (fun K hK => ?_) (AllReadyH.cons rfl (fun K hK => ?_) AllReadyH.nil))
      · go_simp
        skip
        refine hK.out _ _ (by first | exact p0 | exact a1 | exact q0 | exact z0) (fun hHeld => ?_)
        clear hK K
        try simp only [List.getElem_toArray, List.getElem_cons_zero, List.getElem_cons_succ, Act.put, List.setIfInBounds_toArray, List.set_cons_zero, List.set_cons_succ]
        refine wpAnyH_ready (rs := [6]) (by kernel_rfl) (by simp) ?_
        refine (AllReadyH.cons rfl (fun K hK => ?_) AllReadyH.nil)
        go_simp
        skip
        refine hK.out _ _ (by first | exact p0 | exact a1 | exact q0 | exact z0) (fun hHeld => ?_)
        clear hK K
        try simp only [List.getElem_toArray, List.getElem_cons_zero, List.getElem_cons_succ, Act.put, List.setIfInBounds_toArray, List.set_cons_zero, List.set_cons_succ]
        refine wpAnyH_ready (rs := [7]) (by kernel_rfl) (by simp) ?_
        refine (AllReadyH.cons rfl (fun K hK => ?_) AllReadyH.nil)
        go_simp
        skip
        refine hK.out _ _ (by first | exact p0 | exact a1 | exact q0 | exact z0) (fun hHeld => ?_)
        clear hK K
        try simp only [List.getElem_toArray, List.getElem_cons_zero, List.getElem_cons_succ, Act.put, List.setIfInBounds_toArray, List.set_cons_zero, List.set_cons_succ]
        (refine wpAnyH_take (i := 8) (v := ?_) rfl (by kernel_rfl) (by kernel_rfl) (by kernel_rfl) (fun _ _ _ h => h) (Or.inl ⟨by rfl, ?_⟩) hHeld ?_; rotate_left; (intro w hSw; skip; (go_simp <;> with_reducible rfl)); simp only [List.getElem_toArray, List.getElem_cons_zero, List.getElem_cons_succ, Act.put, List.setIfInBounds_toArray, List.set_cons_zero, List.set_cons_succ])
        (refine wpAnyH_take (i := 9) (v := ?_) rfl (by kernel_rfl) (by kernel_rfl) (by kernel_rfl) (fun _ _ _ h => h) (Or.inl ⟨by rfl, ?_⟩) hHeld ?_; rotate_left; (intro w hSw; skip; (go_simp <;> with_reducible rfl)); simp only [List.getElem_toArray, List.getElem_cons_zero, List.getElem_cons_succ, Act.put, List.setIfInBounds_toArray, List.set_cons_zero, List.set_cons_succ])
        refine wpAnyH_ready (rs := [10]) (by kernel_rfl) (by simp) ?_
        refine (AllReadyH.cons rfl (fun K hK => ?_) AllReadyH.nil)
        go_simp
        skip
        refine hK.out _ _ (by first | exact p0 | exact a1 | exact q0 | exact z0) (fun hHeld => ?_)
        clear hK K
        try simp only [List.getElem_toArray, List.getElem_cons_zero, List.getElem_cons_succ, Act.put, List.setIfInBounds_toArray, List.set_cons_zero, List.set_cons_succ]
        refine wpAnyH_done (by kernel_rfl) ?_ _
        refine NoPanic.normal ?_
        gi_wp2
        exact ⟨HK.out, _, HNJ.out⟩
      · go_simp
        skip
        refine hK.out _ _ (by first | exact p0 | exact a1 | exact q0 | exact z0) (fun hHeld => ?_)
        clear hK K
        try simp only [List.getElem_toArray, List.getElem_cons_zero, List.getElem_cons_succ, Act.put, List.setIfInBounds_toArray, List.set_cons_zero, List.set_cons_succ]
        refine wpAnyH_ready (rs := [4]) (by kernel_rfl) (by simp) ?_
        refine (AllReadyH.cons rfl (fun K hK => ?_) AllReadyH.nil)
        go_simp
        skip
        refine hK.out _ _ (by first | exact p0 | exact a1 | exact q0 | exact z0) (fun hHeld => ?_)
        clear hK K
        try simp only [List.getElem_toArray, List.getElem_cons_zero, List.getElem_cons_succ, Act.put, List.setIfInBounds_toArray, List.set_cons_zero, List.set_cons_succ]
        refine wpAnyH_ready (rs := [7]) (by kernel_rfl) (by simp) ?_
        refine (AllReadyH.cons rfl (fun K hK => ?_) AllReadyH.nil)
        go_simp
        skip
        refine hK.out _ _ (by first | exact p0 | exact a1 | exact q0 | exact z0) (fun hHeld => ?_)
        clear hK K
        try simp only [List.getElem_toArray, List.getElem_cons_zero, List.getElem_cons_succ, Act.put, List.setIfInBounds_toArray, List.set_cons_zero, List.set_cons_succ]
        (refine wpAnyH_take (i := 8) (v := ?_) rfl (by kernel_rfl) (by kernel_rfl) (by kernel_rfl) (fun _ _ _ h => h) (Or.inl ⟨by rfl, ?_⟩) hHeld ?_; rotate_left; (intro w hSw; skip; (go_simp <;> with_reducible rfl)); simp only [List.getElem_toArray, List.getElem_cons_zero, List.getElem_cons_succ, Act.put, List.setIfInBounds_toArray, List.set_cons_zero, List.set_cons_succ])
        (refine wpAnyH_take (i := 9) (v := ?_) rfl (by kernel_rfl) (by kernel_rfl) (by kernel_rfl) (fun _ _ _ h => h) (Or.inl ⟨by rfl, ?_⟩) hHeld ?_; rotate_left; (intro w hSw; skip; (go_simp <;> with_reducible rfl)); simp only [List.getElem_toArray, List.getElem_cons_zero, List.getElem_cons_succ, Act.put, List.setIfInBounds_toArray, List.set_cons_zero, List.set_cons_succ])
        refine wpAnyH_ready (rs := [10]) (by kernel_rfl) (by simp) ?_
        refine (AllReadyH.cons rfl (fun K hK => ?_) AllReadyH.nil)
        go_simp
        skip
        refine hK.out _ _ (by first | exact p0 | exact a1 | exact q0 | exact z0) (fun hHeld => ?_)
        clear hK K
        try simp only [List.getElem_toArray, List.getElem_cons_zero, List.getElem_cons_succ, Act.put, List.setIfInBounds_toArray, List.set_cons_zero, List.set_cons_succ]
        refine wpAnyH_done (by kernel_rfl) ?_ _
        refine NoPanic.normal ?_
        gi_wp2
        exact ⟨HK.out, _, HNJ.out⟩
    case iter =>
      intro r0 rc W1 hg1 hsz1 hbk hY
      refine settled1_in (N := sh N) (g := g) (fun s => (((e.n + P) * 256 ^ s % 16777216 : Nat) : Int)) (fun s => ((N * 256 ^ s : Nat) : Int)) _ _ (fun s W => ∃ u, NJ base g w.heap.size q w e.k (e.n + P) N s u W) _ ?h1 ?h2 ?h3 ?h4 (by omega) hY W1 ?h5 hbk
      case h1 =>
        rintro s W ⟨u, h⟩
        have h1 := sh_facts N s hn64 hN h.le
        refine ⟨h.q, ⟨u, h.c.b⟩, h.le, ?_, ?_, ?_, ?_⟩
        · have : (e.n + P) * 256 ^ s % 16777216 < 16777216 := Nat.mod_lt _ (by decide)
          omega
        · omega
        · rw [h1.1]; omega
        · rw [Nat.pow_succ, ← Nat.mul_assoc, Int.natCast_mul]; rfl
      case h2 =>
        rintro s W W' u hs ⟨u', h⟩ hb hb' hg
        have := blk_inj hb h.c.b
        simp at this
        subst this
        exact ⟨_, h.shift hs hb' hg hbg (by omega) (by omega)⟩
      case h3 => exact fun s x W h => h
      case h4 => exact fun W h => h
      case h5 => exact ⟨_, HJ0.out.later ⟨hg1.os, hg1.tape, hg1.output, hg1.size, fun k hk => hg1.block k hk (by simp)⟩ (by omega)⟩
    case done =>
      rintro r W o ⟨u, hnj⟩ hbk
      have h2 := hnj.put hbk.l rfl (by omega) (.loop o)
      have hd : (W.putObj (W0.heap.size + 1) (.loop o)).heap[W0.heap.size]? = some (.deferred (some [])) := (World.putObj_heap_other (by omega)).trans hbk.d
      clear hnj hbk
      generalize W.putObj (W0.heap.size + 1) (.loop o) = W5 at *
      have HJ := hid h2
      have HD := hid hd
      clear h2 hd HJ0
      go_wp2
      refine leaves_mark HD.out ?_
      have h3 := HJ.out.put HD.out rfl (by omega) (.deferred none)
      exact ⟨.tuple #[], by simp [results, Tryd.results52, go_sem], ⟨_, rfl⟩, _, h3.c, h3.l⟩
end Go.Proofs.YthecfboplfmdmaaDoor.Nar
