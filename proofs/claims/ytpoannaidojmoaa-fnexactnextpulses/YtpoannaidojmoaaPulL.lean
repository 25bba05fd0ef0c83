/- How many pulses stand ahead, and the pulses of a number, as the program walks for them. Conditions: right pulses; a number that there is. -/
import Derived.Test.YtpoannaidojmoaaPulK
namespace Go.Proofs.Ytpoannaidojmoaa.PulL
open Go.ChangeShapes Go.WideShapes Go.ChangeAt Go.RowKit Go.Maps Go.MapKept Go.Proofs.Ytpoannaidojmoaa.Num Go.Proofs.Ytpoannaidojmoaa.Sli Go.Proofs.Ytpoannaidojmoaa.HalM Go.Proofs.Ytpoannaidojmoaa.PulM Go.Proofs.Ytpoannaidojmoaa.Blk Go.Proofs.Ytpoannaidojmoaa.App Go.Proofs.Ytpoannaidojmoaa.Div Go.Proofs.Ytpoannaidojmoaa.IntL Go.Proofs.Ytpoannaidojmoaa.IntA Go.Proofs.Ytpoannaidojmoaa.BkI Go.Proofs.Ytpoannaidojmoaa.PulH Go.Proofs.Ytpoannaidojmoaa.PulI Go.Proofs.Ytpoannaidojmoaa.PulJ Go.Proofs.Ytpoannaidojmoaa.PulK Go.Proofs.Ytpoannaidojmoaa.OwsG

/-- Numbers: what is left of a list, and how far its number has been counted. -/
theorem drop_cons {xs : List Int} {p : Nat} (h : p < xs.length) : xs.drop p = xs.getD p 0 :: xs.drop (p + 1) := by
  rw [List.drop_eq_getElem_cons h, List.getD_eq_getElem?_getD, List.getElem?_eq_getElem h]; rfl
/-- Ahead of the m-th number of place p the count is A, and L pulses are left. -/
def AH (xs : List Int) (k p L m A : Nat) : Prop :=
  nmN (xs.drop p) = L ∧ L ≤ k ∧ A + idx (xs.drop p) L = idx xs k + SS (xs.length - 1 - p) L m ∧ (p < xs.length → m ≤ (xs.getD p 0 + L).toNat) ∧ (m = 0 ∨ p < xs.length)
theorem AH.zero {xs : List Int} {k : Nat} (h : nmN xs = k) : AH xs k 0 k 0 0 := ⟨h, Nat.le_refl _, by show 0 + idx xs k = idx xs k + 0; omega, fun _ => Nat.zero_le _, .inl rfl⟩
theorem AH.abs {xs : List Int} {k p L m A : Nat} (h : AH xs k p L m A) (hp : p < xs.length) : (xs.getD p 0).natAbs ≤ L ∧ L - (xs.getD p 0).natAbs = nmN (xs.drop (p + 1)) := by
  obtain ⟨h1, _⟩ := h
  rw [drop_cons hp] at h1
  have h2 : (xs.getD p 0).natAbs + nmN (xs.drop (p + 1)) = L := h1
  omega
theorem AH.top {xs : List Int} {k p L m A : Nat} (h : AH xs k p L m A) (hp : p < xs.length) : A ≤ idx xs k := by
  obtain ⟨h1, h2, h3, h4, _⟩ := h
  have hm := SS_mono (d := xs.length - 1 - p) (L := L) (h4 hp)
  rw [drop_cons hp] at h3
  have e : idx (xs.getD p 0 :: xs.drop (p + 1)) L = SS (xs.drop (p + 1)).length L (xs.getD p 0 + L).toNat + idx (xs.drop (p + 1)) (L - (xs.getD p 0).natAbs) := rfl
  rw [e, List.length_drop, show xs.length - (p + 1) = xs.length - 1 - p by omega] at h3
  omega
theorem AH.yes {xs : List Int} {k p L m A : Nat} (h : AH xs k p L m A) (hp : p < xs.length) (hx : xs.getD p 0 = (m : Int) - L) : AH xs k (p + 1) (L - ((m : Int) - L).natAbs) 0 A := by
  obtain ⟨a1, a2⟩ := h.abs hp
  obtain ⟨h1, h2, h3, h4, _⟩ := h
  rw [drop_cons hp] at h3
  have e : idx (xs.getD p 0 :: xs.drop (p + 1)) L = SS (xs.drop (p + 1)).length L (xs.getD p 0 + L).toNat + idx (xs.drop (p + 1)) (L - (xs.getD p 0).natAbs) := rfl
  rw [e, List.length_drop, show xs.length - (p + 1) = xs.length - 1 - p by omega, hx, show ((m : Int) - L + L).toNat = m by omega] at h3
  rw [hx] at a2
  refine ⟨a2.symm, by omega, ?_, fun _ => Nat.zero_le _, .inl rfl⟩
  show _ = idx xs k + 0
  omega
theorem AH.no {xs : List Int} {k p L m A : Nat} (h : AH xs k p L m A) (hp : p < xs.length) (hx : xs.getD p 0 ≠ (m : Int) - L) : AH xs k p L (m + 1) (A + tm (xs.length - 1 - p) L m) := by
  obtain ⟨a1, _⟩ := h.abs hp
  obtain ⟨h1, h2, h3, h4, _⟩ := h
  have := h4 hp
  refine ⟨h1, h2, ?_, fun _ => by omega, .inr hp⟩
  rw [SS_succ]; omega
theorem AH.most {xs : List Int} {k p L m A : Nat} (h : AH xs k p L m A) (hp : p < xs.length) : m ≤ 2 * L ∧ L ≤ k := by
  obtain ⟨a1, _⟩ := h.abs hp
  obtain ⟨h1, h2, h3, h4, _⟩ := h
  have := h4 hp
  exact ⟨by omega, h2⟩
theorem AH.last {xs : List Int} {k L A : Nat} (h : AH xs k xs.length L 0 A) : A = idx xs k := by
  obtain ⟨h1, h2, h3, _⟩ := h
  rw [List.drop_length] at h3
  have : A + 0 = idx xs k + 0 := h3
  omega
theorem tm_small {d L m : Nat} (hd : d < 5) (hL : L < 9) : tm d L m ≤ 100000 := by
  unfold tm
  exact (cnt_small d hd _ (by omega)).1
set_option maxRecDepth 100000 in
set_option maxHeartbeats 2000000 in
theorem ahead_calls (v : Value) (xs : List Int) (k : Int) (w : World) (h : Sl .i64 w v xs) (hp : pfC xs k = 0) :
    Calls Try.prog 32 #[.agg #[.int .i64 (xs.length : Int), .int .i64 k], v] w fun e w' => e = .returned (.int .i64 (ixV xs k)) ∧ Below w.heap.size w w' := by
  obtain ⟨d1, d2, k1, k2, hn, _⟩ := pf_yes hp
  obtain ⟨K, rfl⟩ : ∃ K : Nat, k = (K : Int) := ⟨k.toNat, by omega⟩
  rw [Int.toNat_natCast] at hn
  have hlt := idx_lt xs K hn (by omega) (by omega)
  have hsm := (cnt_small xs.length (by omega) K (by omega)).1
  obtain ⟨va, vc, hve, _⟩ := id h
  subst hve
  have hmf : ∀ (fn : Fn) (first cap : Array Value) (w : World), (Instr.makeFunc fn first cap).run Try.prog w = .ok (.func fn first cap) w := fun _ _ _ _ => rfl
  have HB1 := hid ((Blk.new w #[.int .i64 (xs.length : Int), .int .i64 (K : Int)] 49).alloc (.cells #[.slice va xs.length vc] 24) |>.alloc (.cells #[.int .i64 0] 47))
  have HB2 := hid ((Blk.new (w.alloc (.cells #[.int .i64 (xs.length : Int), .int .i64 (K : Int)] 49)) #[.slice va xs.length vc] 24).alloc (.cells #[.int .i64 0] 47))
  have HB3 := hid (Blk.new ((w.alloc (.cells #[.int .i64 (xs.length : Int), .int .i64 (K : Int)] 49)).alloc (.cells #[.slice va xs.length vc] 24)) #[.int .i64 0] 47)
  have HL := hid (bmore (bmore (bmore (Below.refl w.heap.size w) (.cells #[.int .i64 (xs.length : Int), .int .i64 (K : Int)] 49)) (.cells #[.slice va xs.length vc] 24)) (.cells #[.int .i64 0] 47))
  have HZ := hid (show (((w.alloc (.cells #[.int .i64 (xs.length : Int), .int .i64 (K : Int)] 49)).alloc (.cells #[.slice va xs.length vc] 24)).alloc (.cells #[.int .i64 0] 47)).heap.size = w.heap.size + 3 by simp [World.size_alloc])
  rw [World.size_alloc] at HB2
  rw [World.size_alloc, World.size_alloc] at HB3
  obtain ⟨c0, c1, _, _⟩ := HB1.out.two
  have HX := hid h
  clear h
  have hixV : Hid (ixV xs (K : Int) = (idx xs K : Int)) := hid (by unfold ixV; rw [Int.toNat_natCast])
  go_enter Try.func32, Try.ntmps32
  go_wp2_with fail
  refine (walk_calls 52 _ _ xs.length K _ (fun j => j = w.heap.size + 1 + 1) (fun p L m W => Blk W (w.heap.size + 1) #[.slice va xs.length vc] 24 ∧ ∃ A : Nat, Blk W (w.heap.size + 1 + 1) #[.int .i64 (A : Int)] 47 ∧ AH xs K p L m A) ⟨d1, d2⟩ (by omega) (fun j hj => by rw [HZ.out]; omega) Try.call52 ?_ ?_ ?_ ?_).mono ?_
  · rintro p L m W W' ⟨a, A, c, e⟩ hb
    exact ⟨a.later hb, A, c.later hb, e⟩
  · exact ⟨HB2.out, 0, HB3.out, AH.zero hn⟩
  · rintro p L m W ⟨_, A, _, e⟩ hpl
    exact e.most hpl
  · rintro p L m W ⟨a, A, c, e⟩ hpl hO
    have b := HX.out.later (HL.out.trans (hO.below (by rw [HZ.out]; omega) (fun j hj => by omega)))
    have htop := e.top hpl
    have hmost := e.most hpl
    have htm := tm_small (d := xs.length - 1 - p) (L := L) (m := m) (by omega) (by omega)
    by_cases hx : xs.getD p 0 = (m : Int) - L
    · refine (aheadS_yes _ _ p _ _ _ xs _ W b hpl a hx).mono ?_
      rintro e1 w1 ⟨rfl, rfl⟩
      exact ⟨On.refl _ _, .inl ⟨rfl, a, A, c, e.yes hpl hx⟩⟩
    · refine (aheadS_no _ _ p _ _ (A : Int) _ xs _ _ W b hpl a c hx (by omega) (by omega)).mono ?_
      rintro e1 w1 ⟨rfl, rfl⟩
      refine ⟨onCell _ _ _ _ rfl, .inr ⟨rfl, a.other (by omega) _ _, A + tm (xs.length - 1 - p) L m, ?_, e.no hpl hx⟩⟩
      have := c.set 0 (.int .i64 ((A : Int) + (tm (xs.length - 1 - p) L m : Int)))
      exact this
  · rintro e w5 ⟨rfl, ⟨L, _, A, hA, hAH⟩, hO⟩
    have hAe := hAH.last
    subst hAe
    have a0 := hA.cell 0
    simp at a0
    have HLL := hid (HL.out.trans (hO.below (by rw [HZ.out]; omega) (fun j hj => by omega)))
    clear hO hA hAH
    go_wp2
    go_ret
    exact ⟨by rw [hixV.out]; rfl, HLL.out⟩
/-- Ahead of the m-th number of place p, i is left of the number, and what is put by now and what is still to be put are the pulses of j. -/
def AT (tg : List Int) (d k p L m i : Nat) : Prop :=
  L ≤ k ∧ atL (d - p) L (i + SS (d - 1 - p) L m) = tg.drop p ∧ (p < d → i + SS (d - 1 - p) L m < cnt (d - p) L ∧ m ≤ (pk (d - 1 - p) L (i + SS (d - 1 - p) L m)).1)
theorem AT.zero {d k i : Nat} (hi : i < cnt d k) : AT (atL d k i) d k 0 k 0 i := ⟨Nat.le_refl _, rfl, fun _ => ⟨hi, Nat.zero_le _⟩⟩
theorem AT.next {tg : List Int} {d k p L m i : Nat} (h : AT tg d k p L m i) (hp : p < d) (hd : d ≤ 4) (hk : k ≤ 8) :
    m ≤ 2 * L ∧ L ≤ k ∧ SS (d - 1 - p) L m + i = SS (d - 1 - p) L (pk (d - 1 - p) L (i + SS (d - 1 - p) L m)).1 + (pk (d - 1 - p) L (i + SS (d - 1 - p) L m)).2 ∧ (pk (d - 1 - p) L (i + SS (d - 1 - p) L m)).2 < tm (d - 1 - p) L (pk (d - 1 - p) L (i + SS (d - 1 - p) L m)).1 := by
  obtain ⟨h1, h2, h3⟩ := h
  obtain ⟨h4, h5⟩ := h3 hp
  obtain ⟨q1, q2, q3⟩ := pk_in (d := d - 1 - p) (L := L) (by omega) (by omega) (show i + SS (d - 1 - p) L m < cnt (d - 1 - p + 1) L by rw [show d - 1 - p + 1 = d - p by omega]; exact h4)
  exact ⟨by omega, h1, by omega, q3⟩
theorem AT.yes {tg : List Int} {d k p L m i : Nat} (h : AT tg d k p L m i) (hp : p < d) (hd : d ≤ 4) (hk : k ≤ 8) (hi : i < tm (d - 1 - p) L m) :
    tg.drop p = ((m : Int) - L) :: tg.drop (p + 1) ∧ AT tg d k (p + 1) (L - ((m : Int) - L).natAbs) 0 i := by
  obtain ⟨g1, g2, g3, g4⟩ := h.next hp hd hk
  obtain ⟨h1, h2, h3⟩ := h
  obtain ⟨h4, h5⟩ := h3 hp
  obtain ⟨e, he⟩ : ∃ e, d - 1 - p = e := ⟨_, rfl⟩
  have hde : d - p = e + 1 := by omega
  rw [he] at g3 g4 h2 h4 h5 hi
  rw [hde] at h2 h4
  have hq : (pk e L (i + SS e L m)).1 = m := by
    rcases Nat.lt_or_ge m (pk e L (i + SS e L m)).1 with q | q
    · have := SS_mono (d := e) (L := L) (show m + 1 ≤ (pk e L (i + SS e L m)).1 from q)
      rw [SS_succ] at this
      omega
    · omega
  have hr : (pk e L (i + SS e L m)).2 = i := by rw [hq] at g3; omega
  have ha : atL (e + 1) L (i + SS e L m) = (((pk e L (i + SS e L m)).1 : Int) - L) :: atL e (L - (((pk e L (i + SS e L m)).1 : Int) - L).natAbs) (pk e L (i + SS e L m)).2 := rfl
  rw [ha, hq, hr] at h2
  have htl : atL e (L - ((m : Int) - L).natAbs) i = tg.drop (p + 1) := by
    have := congrArg List.tail h2
    rw [List.tail_drop] at this
    exact this
  refine ⟨by rw [← h2, htl], by omega, ?_, fun hp1 => ?_⟩
  · rw [show d - (p + 1) = e by omega]
    exact htl
  · have ht := tm_at (d := e) (L := L) (x := (m : Int) - L) (by omega) (by omega)
    rw [show ((m : Int) - L + L).toNat = m by omega] at ht
    refine ⟨?_, Nat.zero_le _⟩
    rw [show d - (p + 1) = e by omega]
    show i + 0 < _
    omega
theorem AT.no {tg : List Int} {d k p L m i : Nat} (h : AT tg d k p L m i) (hp : p < d) (hd : d ≤ 4) (hk : k ≤ 8) (hi : tm (d - 1 - p) L m ≤ i) : AT tg d k p L (m + 1) (i - tm (d - 1 - p) L m) := by
  obtain ⟨g1, g2, g3, g4⟩ := h.next hp hd hk
  obtain ⟨h1, h2, h3⟩ := h
  have e : i - tm (d - 1 - p) L m + SS (d - 1 - p) L (m + 1) = i + SS (d - 1 - p) L m := by rw [SS_succ]; omega
  refine ⟨h1, by rw [e]; exact h2, fun _ => ?_⟩
  obtain ⟨h4, h5⟩ := h3 hp
  rw [e]
  refine ⟨h4, ?_⟩
  rcases Nat.lt_or_ge m (pk (d - 1 - p) L (i + SS (d - 1 - p) L m)).1 with q | q
  · exact q
  · have hq : (pk (d - 1 - p) L (i + SS (d - 1 - p) L m)).1 = m := by omega
    rw [hq] at g3 g4
    omega
theorem put_next {tg : List Int} {d p : Nat} {x : Int} (hp : p < d) (hl : tg.length = d) (h : tg.drop p = x :: tg.drop (p + 1)) : (tg.take p ++ List.replicate (d - p) 0).set p x = tg.take (p + 1) ++ List.replicate (d - (p + 1)) 0 := by
  have hpl : p < tg.length := by omega
  have hx : tg[p] = x := by
    rw [List.drop_eq_getElem_cons hpl] at h
    exact (List.cons.inj h).1
  rw [List.set_append_right _ _ (by rw [List.length_take]; omega), List.length_take, Nat.min_eq_left (by omega), Nat.sub_self, show d - p = d - (p + 1) + 1 by omega, List.replicate_succ, List.set_cons_zero, List.take_succ_eq_append_getElem hpl, hx]
  simp
set_option maxRecDepth 100000 in
set_option maxHeartbeats 2000000 in
theorem pulsesAt_calls (d k i : Int) (w : World) (hp : plC d k i = 0) :
    Calls Try.prog 34 #[.agg #[.int .i64 d, .int .i64 k], .int .i64 i] w fun e w' => ∃ u, e = .returned u ∧ OwI w.heap.size w' u (plL d k i) ∧ Below w.heap.size w w' := by
  obtain ⟨d1, d2, k1, k2, i1, i2, hpl⟩ := pl_yes hp
  obtain ⟨D, rfl⟩ : ∃ D : Nat, d = (D : Int) := ⟨d.toNat, by omega⟩
  obtain ⟨K, rfl⟩ : ∃ K : Nat, k = (K : Int) := ⟨k.toNat, by omega⟩
  obtain ⟨J, rfl⟩ : ∃ J : Nat, i = (J : Int) := ⟨i.toNat, by omega⟩
  rw [hpl]
  unfold ctV at i2
  simp only [Int.toNat_natCast] at i2 ⊢
  have hJ : J < cnt D K := by omega
  have hsm := (cnt_small D (by omega) K (by omega)).1
  have hlen := atL_len D K J
  have hAT := hid (AT.zero hJ)
  generalize atL D K J = tg at *
  have hmf : ∀ (fn : Fn) (first cap : Array Value) (w : World), (Instr.makeFunc fn first cap).run Try.prog w = .ok (.func fn first cap) w := fun _ _ _ _ => rfl
  have hmk := make_i D (by omega)
  have HB2 := hid (((Blk.new (w.alloc (.cells #[.int .i64 (D : Int), .int .i64 (K : Int)] 49)) #[.int .i64 (J : Int)] 47).alloc (.cells (cs (List.replicate D 0)) 2)).alloc (.cells #[.slice (some ⟨w.heap.size + 1 + 1, 0, none⟩) D D] 24))
  have HB3 : Hid (Bi ((((w.alloc (.cells #[.int .i64 (D : Int), .int .i64 (K : Int)] 49)).alloc (.cells #[.int .i64 (J : Int)] 47)).alloc (.cells (cs (List.replicate D 0)) 2)).alloc (.cells #[.slice (some ⟨w.heap.size + 1 + 1, 0, none⟩) D D] 24)) (w.heap.size + 1 + 1) (List.replicate D 0)) := hid (by
    have := (Blk.new ((w.alloc (.cells #[.int .i64 (D : Int), .int .i64 (K : Int)] 49)).alloc (.cells #[.int .i64 (J : Int)] 47)) (cs (List.replicate D 0)) 2).alloc (.cells #[.slice (some ⟨w.heap.size + 1 + 1, 0, none⟩) D D] 24)
    rw [World.size_alloc, World.size_alloc] at this
    exact this)
  have HB4 := hid (Blk.new (((w.alloc (.cells #[.int .i64 (D : Int), .int .i64 (K : Int)] 49)).alloc (.cells #[.int .i64 (J : Int)] 47)).alloc (.cells (cs (List.replicate D 0)) 2)) #[.slice (some ⟨w.heap.size + 1 + 1, 0, none⟩) D D] 24)
  have HL := hid (bmore (bmore (bmore (bmore (Below.refl w.heap.size w) (.cells #[.int .i64 (D : Int), .int .i64 (K : Int)] 49)) (.cells #[.int .i64 (J : Int)] 47)) (.cells (cs (List.replicate D 0)) 2)) (.cells #[.slice (some ⟨w.heap.size + 1 + 1, 0, none⟩) D D] 24))
  have HZ := hid (show ((((w.alloc (.cells #[.int .i64 (D : Int), .int .i64 (K : Int)] 49)).alloc (.cells #[.int .i64 (J : Int)] 47)).alloc (.cells (cs (List.replicate D 0)) 2)).alloc (.cells #[.slice (some ⟨w.heap.size + 1 + 1, 0, none⟩) D D] 24)).heap.size = w.heap.size + 4 by simp [World.size_alloc])
  rw [World.size_alloc] at HB2
  rw [World.size_alloc, World.size_alloc, World.size_alloc] at HB4
  go_enter Try.func34, Try.ntmps34
  go_wp2_with fail
  refine (walk_calls 54 _ _ D K _ (fun j => j = w.heap.size + 1 ∨ j = w.heap.size + 1 + 1) (fun p L m W => Blk W (w.heap.size + 1 + 1 + 1) #[.slice (some ⟨w.heap.size + 1 + 1, 0, none⟩) D D] 24 ∧ p ≤ D ∧ Bi W (w.heap.size + 1 + 1) (tg.take p ++ List.replicate (D - p) 0) ∧ ∃ A : Nat, A ≤ 100000 ∧ Blk W (w.heap.size + 1) #[.int .i64 (A : Int)] 47 ∧ AT tg D K p L m A) (by omega) (by omega) (fun j hj => by rw [HZ.out]; omega) Try.call54 ?_ ?_ ?_ ?_).mono ?_
  · rintro p L m W W' ⟨a, hpD, b, A, hA, c, e⟩ hb
    exact ⟨a.later hb, hpD, b.later hb, A, hA, c.later hb, e⟩
  · refine ⟨HB4.out, by omega, ?_, J, by omega, HB2.out, hAT.out⟩
    rw [List.take_zero, List.nil_append, Nat.sub_zero]
    exact HB3.out
  · rintro p L m W ⟨_, _, _, A, _, _, e⟩ hpl
    obtain ⟨g1, g2, _⟩ := e.next hpl (by omega) (by omega)
    exact ⟨g1, g2⟩
  · rintro p L m W ⟨a, hpD, b, A, hA, c, e⟩ hpl hO
    have hyl : (tg.take p ++ List.replicate (D - p) (0 : Int)).length = D := by rw [List.length_append, List.length_take, List.length_replicate]; omega
    by_cases hx : A < tm (D - 1 - p) L m
    · obtain ⟨e1, e2⟩ := e.yes hpl (by omega) (by omega) hx
      refine (pulsesS_yes _ _ (w.heap.size + 1 + 1) p _ _ (A : Int) (tg.take p ++ List.replicate (D - p) (0 : Int)) _ _ _ _ W (by omega) hyl.symm c a b (by omega)).mono ?_
      rintro e3 w1 ⟨rfl, rfl⟩
      refine ⟨onCell _ _ _ _ (.inr rfl), .inl ⟨rfl, a.other (by omega) _ _, by omega, ?_, A, hA, c.other (by omega) _ _, e2⟩⟩
      have := b.set p ((m : Int) - L)
      rw [put_next hpl hlen e1] at this
      exact this
    · refine (pulsesS_no _ _ p _ _ (A : Int) _ W c (by omega) (by omega) (by omega)).mono ?_
      rintro e3 w1 ⟨rfl, rfl⟩
      refine ⟨onCell _ _ _ _ (.inl rfl), .inr ⟨rfl, a.other (by omega) _ _, hpD, b.other (by omega) _ _, A - tm (D - 1 - p) L m, by omega, ?_, e.no hpl (by omega) (by omega) (by omega)⟩⟩
      have := c.set 0 (.int .i64 ((A : Int) - (tm (D - 1 - p) L m : Int)))
      rw [show ((A - tm (D - 1 - p) L m : Nat) : Int) = (A : Int) - (tm (D - 1 - p) L m : Int) by omega]
      exact this
  · rintro e w5 ⟨rfl, ⟨L, a, _, b, A, _, _, _⟩, hO⟩
    have a0 := a.cell 0
    simp at a0
    rw [Nat.sub_self, List.replicate_zero, List.append_nil, List.take_of_length_le (by omega)] at b
    have HOw : Hid (OwI w.heap.size w5 (.slice (some ⟨w.heap.size + 1 + 1, 0, none⟩) tg.length tg.length) tg) := hid (b.ow (by omega) (by omega))
    rw [hlen] at HOw
    have HLL := hid (HL.out.trans (hO.below (by rw [HZ.out]; omega) (fun j hj => by omega)))
    clear hO a b
    go_wp2
    go_ret
    exact ⟨_, rfl, HOw.out, HLL.out⟩
end Go.Proofs.Ytpoannaidojmoaa.PulL
