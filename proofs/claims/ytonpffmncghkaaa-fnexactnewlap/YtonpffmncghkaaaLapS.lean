/- The model's faults of laps and synths, new ones, and whether two are the same. Conditions: lists of at most 1048576 numbers. -/
import Derived.Test.YtonpffmncghkaaaLapN
import Derived.Test.YtonpffmncghkaaaIntA
import Derived.Test.YtonpffmncghkaaaBlk
import Derived.Shelf.RegionOpenPlain
namespace Go.Proofs.Ytonpffmncghkaaa.LapS
open Go.ChangeShapes Go.WideShapes Go.ChangeAt Go.RowKit Go.Proofs.Ytonpffmncghkaaa.Num Go.Proofs.Ytonpffmncghkaaa.Sli Go.Proofs.Ytonpffmncghkaaa.App Go.Proofs.Ytonpffmncghkaaa.Div Go.Proofs.Ytonpffmncghkaaa.Samp Go.Proofs.Ytonpffmncghkaaa.SampF Go.Proofs.Ytonpffmncghkaaa.Blk Go.Proofs.Ytonpffmncghkaaa.TurM Go.Proofs.Ytonpffmncghkaaa.HalM Go.Proofs.Ytonpffmncghkaaa.LapM Go.Proofs.Ytonpffmncghkaaa.LapN Go.Proofs.Ytonpffmncghkaaa.IntL Go.Proofs.Ytonpffmncghkaaa.IntA

theorem mixed7 : Try.prog.follows Departure.mixedOrders = true := by kernel_rfl
theorem ow_nil (base : Nat) (w : World) : OwI base w (.slice none 0 0) [] := ⟨rfl, .inl ⟨rfl, rfl⟩⟩
/-- What lies above block R stays while R turns. -/
theorem _root_.Go.Proofs.Ytonpffmncghkaaa.App.Ow.over {k : IntKind} {t base R : Nat} {w w' : World} {v : Value} {ys : List Int} (h : Ow k t base w v ys) (hR : R < base) (hg : w.grownBy w' (some R)) : Ow k t base w' v ys :=
  h.kept hg (fun j e => by cases e; exact hR)
theorem grown_set3 (w : World) (R : Nat) (x y z : Value) : w.grownBy (((w.setCell ⟨R, 0, none⟩ x).setCell ⟨R, 1, none⟩ y).setCell ⟨R, 2, none⟩ z) (some R) := grown_same (grown_same (grown_set w R 0 x) (grown_set _ R 1 y)) (grown_set _ R 2 z)
theorem grown_set4 (w : World) (R : Nat) (x y z u : Value) : w.grownBy ((((w.setCell ⟨R, 0, none⟩ x).setCell ⟨R, 1, none⟩ y).setCell ⟨R, 2, none⟩ z).setCell ⟨R, 3, none⟩ u) (some R) := grown_same (grown_set3 w R x y z) (grown_set _ R 3 u)
theorem grown_set5 (w : World) (R : Nat) (x y z u v : Value) : w.grownBy (((((w.setCell ⟨R, 0, none⟩ x).setCell ⟨R, 1, none⟩ y).setCell ⟨R, 2, none⟩ z).setCell ⟨R, 3, none⟩ u).setCell ⟨R, 4, none⟩ v) (some R) := grown_same (grown_set4 w R x y z u) (grown_set _ R 4 v)
/-- Two owned lists that share no block. -/
structure TW (base : Nat) (u t : Value) (S D : List Int) (W : World) : Prop where
  s : OwI base W u S
  d : OwI base W t D
  ne : ∀ g, u.ownBlock = some g → t.ownBlock ≠ some g
section
variable {base R : Nat} {u t : Value} {S D : List Int} {W W' : World}
theorem TW.nil (base : Nat) (W : World) : TW base (.slice none 0 0) (.slice none 0 0) [] [] W := ⟨ow_nil _ _, ow_nil _ _, fun _ e => by cases e⟩
theorem TW.later (h : TW base u t S D W) (hb : Below W.heap.size W W') : TW base u t S D W' := ⟨h.s.later hb, h.d.later hb, h.ne⟩
theorem TW.mono {base' : Nat} (h : TW base u t S D W) (hb : base' ≤ base) : TW base' u t S D W := ⟨h.s.mono hb, h.d.mono hb, h.ne⟩
theorem TW.over (h : TW base u t S D W) (hR : R < base) (hg : W.grownBy W' (some R)) : TW base u t S D W' := ⟨h.s.over hR hg, h.d.over hR hg, h.ne⟩
theorem TW.set4 (h : TW base u t S D W) (hR : R < base) (x y z v : Value) : TW R u t S D ((((W.setCell ⟨R, 0, none⟩ x).setCell ⟨R, 1, none⟩ y).setCell ⟨R, 2, none⟩ z).setCell ⟨R, 3, none⟩ v) := (h.over hR (grown_set4 W R x y z v)).mono (by omega)
end
/-- What a new one tells. -/
def nlS (s : Int) : Int := if szF s = 0 then s else 0
def nlL (s : Int) : List Int := if szF s = 0 then List.replicate (hN s) 0 else []
set_option maxHeartbeats 1000000 in
theorem same_some (b1 off1 cap1 b2 off2 cap2 : Nat) (xs ys : List Int) (n : Nat) (w : World) (hx : xs.length = n) (hy : ys.length = n) (hlen : n ≤ 1048576) (hb1 : b1 < w.heap.size) (hb2 : b2 < w.heap.size)
    (h1 : ∀ i, i < n → w.cell? ⟨b1, off1 + i, none⟩ = some (.int .i64 (xs.getD i 0))) (h2 : ∀ i, i < n → w.cell? ⟨b2, off2 + i, none⟩ = some (.int .i64 (ys.getD i 0))) :
    Calls Try.prog 52 #[.slice (some ⟨b1, off1, none⟩) n cap1, .slice (some ⟨b2, off2, none⟩) n cap2] w fun e w' => e = .returned (.bool (xs == ys)) ∧ Below w.heap.size w w' := by
  have HY : Hid ((∀ i, i < n → xs.getD i 0 = ys.getD i 0) → (xs == ys) = true) := by
    intro h
    have : xs = ys := ext_g (by rw [hx, hy]) (fun i hi => h i (by omega))
    rw [this]; simp
  have HN : Hid (∀ i, i < n → xs.getD i 0 ≠ ys.getD i 0 → (xs == ys) = false) := by
    intro i _ h
    cases e : (xs == ys)
    · rfl
    · exact absurd (by rw [eq_of_beq e]) h
  have H1 := hid h1
  have H2 := hid h2
  clear h1 h2 hx hy
  generalize (xs == ys) = r at *
  go_enter Try.func52, Try.ntmps52
  go_wp2
  go_loopw [5] (fun i wr => ∃ k : Nat, k ≤ n ∧ i = .int .i64 k ∧ Hid (∀ j, j < k → xs.getD j 0 = ys.getD j 0) ∧ Hid (Below w.heap.size w wr)) (fun i _ => n - (intOf i).toNat)
  case atStart => exact ⟨0, Nat.zero_le _, rfl, fun j hj => by omega, Below.refl _ _⟩
  case round =>
    obtain ⟨k, hk, rfl, hall, HB⟩ := hrel
    by_cases hlt : k < n
    · have c1 := (HB.out.cell (p := ⟨b1, off1 + k, none⟩) hb1).trans (H1.out k hlt)
      have c2 := (HB.out.cell (p := ⟨b2, off2 + k, none⟩) hb2).trans (H2.out k hlt)
      have HD := hid HB.out.drew
      by_cases he : xs.getD k 0 = ys.getD k 0
      · have HR : Hid (∀ j, j < k + 1 → xs.getD j 0 = ys.getD j 0) := by
          intro j hj
          by_cases e : j = k
          · rw [e]; exact he
          · exact hall.out j (by omega)
        rw [← he] at c2
        clear hall he HN HY
        generalize xs.getD k 0 = x at *
        have mixed := mixed7
        go_wp2_with fail
        go_region_o
        go_wp2
        go_roundw
        case rel => exact ⟨k + 1, by omega, by go_num, HR, HD⟩
        case measure => simp [intOf]; omega
      · have HR := hid (HN.out k hlt he)
        have hb : (xs.getD k 0 != ys.getD k 0) = true := by simpa using he
        clear hall HN HY he
        generalize xs.getD k 0 = x at *
        generalize ys.getD k 0 = y at *
        have mixed := mixed7
        go_wp2_with fail
        go_region_o
        go_wp2
        go_ret
        exact ⟨by rw [HR.out]; rfl, HD.out⟩
    · have he : k = n := by omega
      subst he
      have HR := hid (HY.out hall.out)
      clear hall HN HY H1 H2
      go_wp2
      go_ret
      exact ⟨by rw [HR.out]; rfl, HB.out⟩
theorem same_none (a1 a2 : Option Addr) (cap1 cap2 : Nat) (w : World) :
    Calls Try.prog 52 #[.slice a1 0 cap1, .slice a2 0 cap2] w fun e w' => e = .returned (.bool true) ∧ w' = w := by
  go_enter Try.func52, Try.ntmps52
  go_wp2
  go_loop [5] (fun i => i = .int .i64 0) (fun _ => 0)
  case atStart => exact rfl
  case round =>
    obtain rfl := hrel
    go_wp2
    go_ret
    exact ⟨rfl, rfl⟩
/-- Whether two lists are the same. -/
theorem same_calls (v1 v2 : Value) (xs ys : List Int) (w : World) (h1 : Sl .i64 w v1 xs) (h2 : Sl .i64 w v2 ys) (m1 : xs.length ≤ 1048576) (m2 : ys.length ≤ 1048576) :
    Calls Try.prog 52 #[v1, v2] w fun e w' => e = .returned (.bool (xs == ys)) ∧ Below w.heap.size w w' := by
  obtain ⟨a1, cap1, rfl, hc1⟩ := h1
  obtain ⟨a2, cap2, rfl, hc2⟩ := h2
  by_cases hl : xs.length = ys.length
  · rw [← hl]
    by_cases hx : xs = []
    · subst hx
      have hy : ys = [] := List.eq_nil_of_length_eq_zero hl.symm
      subst hy
      refine (same_none a1 a2 cap1 cap2 w).mono ?_
      rintro e w' ⟨rfl, rfl⟩
      exact ⟨rfl, Below.refl _ _⟩
    · obtain ⟨b1, off1, rfl, hl1, hcell1⟩ := hc1 hx
      obtain ⟨b2, off2, rfl, hl2, hcell2⟩ := hc2 (by intro e; rw [e] at hl; exact hx (List.eq_nil_of_length_eq_zero hl))
      rw [← hl] at hcell2
      exact same_some b1 off1 cap1 b2 off2 cap2 xs ys xs.length w rfl hl.symm m1 hl1 hl2 hcell1 hcell2
  · have he : (xs == ys) = false := by
      cases e : (xs == ys)
      · rfl
      · exact absurd (by rw [eq_of_beq e]) hl
    have hb : ((xs.length : Int) != (ys.length : Int)) = true := by simp; omega
    rw [he]
    clear he hc1 hc2 hl
    go_enter Try.func52, Try.ntmps52
    go_wp2
    go_ret
    exact ⟨rfl, Below.refl _ _⟩
set_option maxHeartbeats 1000000 in
theorem specLapFault_calls (s : Int) (vh vr : Value) (half rest : List Int) (w : World) (h1 : Sl .i64 w vh half) (h2 : Sl .i64 w vr rest) (m1 : half.length ≤ 1048576) (m2 : rest.length ≤ 1048576) :
    Calls Try.prog 10 #[.agg #[.int .i64 s, vh, vr]] w fun e w' => e = .returned (.int .i64 (lfC s half rest)) ∧ Below w.heap.size w w' := by
  have HS := hid (specSizeFault_calls s)
  have HA1 := hid (fun W (hW : Sl .i64 W vh half) => all_calls vh half (-65536) 65536 W hW m1)
  have HA2 := hid (fun W (hW : Sl .i64 W vr rest) => all_calls vr rest (-32768) 32767 W hW m2)
  have hb := bmore (Below.refl _ w) (.cells #[.int .i64 s, vh, vr] 27)
  have Hs1 := hid (h1.later hb)
  have Hs2 := hid (h2.later hb)
  have HB := hid hb
  obtain ⟨a1, c1, rfl, _⟩ := h1
  obtain ⟨a2, c2, rfl, _⟩ := h2
  clear hb
  rcases sz_03 s with hz | hz
  · obtain ⟨_, e1, e2, e3, e4, e5⟩ := sz_nat hz
    have hm0 : s.tdiv 2 = (hN s : Int) := by rw [Int.tdiv_eq_ediv_of_nonneg (by omega)]; exact e5
    rw [hz] at HS
    have Hz := hid hz
    by_cases hl : half.length = hN s ∧ rest.length = hN s
    · have HL := hid hl
      obtain ⟨hl1, hl2⟩ := hl
      rw [hl1] at HA1
      rw [hl2] at HA2
      rw [hl1, hl2] at HB Hs1 Hs2 ⊢
      have hbd : 0 ≤ s ∧ s ≤ 16 := by omega
      clear e1 e2 e5 hl1 hl2 hz m1 m2
      cases ha1 : half.all (inB (-65536) 65536)
      · have HE : Hid (lfC s half rest = 3) := by show _ = _; unfold lfC; rw [if_pos Hz.out, if_pos HL.out, if_neg (by rw [show half.all blB = false from ha1]; simp)]
        rw [ha1] at HA1
        clear ha1 HL Hz HA2
        generalize hN s = m at *
        go_enter Try.func10, Try.ntmps10
        go_wp2_with (first | (go_at_call 34; refine (HS.out _).mono ?_; rintro e w' ⟨rfl, rfl⟩) | (go_at_call 35; refine (HA1.out _ Hs1.out).mono ?_; rintro e w' ⟨rfl, rfl⟩))
        go_ret
        exact ⟨by rw [HE.out]; rfl, HB.out⟩
      · rw [ha1] at HA1
        cases ha2 : rest.all (inB (-32768) 32767)
        · have HE : Hid (lfC s half rest = 3) := by show _ = _; unfold lfC; rw [if_pos Hz.out, if_pos HL.out, if_neg (by rw [show rest.all sampB = false from ha2]; simp)]
          rw [ha2] at HA2
          clear ha1 ha2 HL Hz
          generalize hN s = m at *
          go_enter Try.func10, Try.ntmps10
          go_wp2_with (go_at_call 34; refine (HS.out _).mono ?_; rintro e w' ⟨rfl, rfl⟩)
          refine (HA1.out _ Hs1.out).mono ?_
          rintro e w' ⟨rfl, rfl⟩
          go_wp2_with fail
          refine (HA2.out _ Hs2.out).mono ?_
          rintro e w' ⟨rfl, rfl⟩
          go_wp2
          go_ret
          exact ⟨by rw [HE.out]; rfl, HB.out⟩
        · have HE : Hid (lfC s half rest = 0) := by show _ = _; unfold lfC; rw [if_pos Hz.out, if_pos HL.out, if_pos ⟨(show half.all blB = true from ha1), (show rest.all sampB = true from ha2)⟩]
          rw [ha2] at HA2
          clear ha1 ha2 HL Hz
          generalize hN s = m at *
          go_enter Try.func10, Try.ntmps10
          go_wp2_with (go_at_call 34; refine (HS.out _).mono ?_; rintro e w' ⟨rfl, rfl⟩)
          refine (HA1.out _ Hs1.out).mono ?_
          rintro e w' ⟨rfl, rfl⟩
          go_wp2_with fail
          refine (HA2.out _ Hs2.out).mono ?_
          rintro e w' ⟨rfl, rfl⟩
          go_wp2
          go_ret
          exact ⟨by rw [HE.out]; rfl, HB.out⟩
    · have HE : Hid (lfC s half rest = 2) := by show _ = _; unfold lfC; rw [if_pos hz, if_neg hl]
      have hbd : 0 ≤ s ∧ s ≤ 16 := by omega
      clear HA1 HA2 e1 e2 e5 hz Hz Hs1 Hs2
      generalize hN s = m at *
      by_cases hl1 : half.length = m
      · have hl2 : ((rest.length : Int) != (m : Int)) = true := by simp; omega
        rw [hl1] at HB ⊢
        clear hl hl1
        go_enter Try.func10, Try.ntmps10
        go_wp2_with (go_at_call 34; refine (HS.out _).mono ?_; rintro e w' ⟨rfl, rfl⟩)
        go_ret
        exact ⟨by rw [HE.out]; rfl, HB.out⟩
      · have hl2 : ((half.length : Int) != (m : Int)) = true := by simp; omega
        clear hl hl1
        go_enter Try.func10, Try.ntmps10
        go_wp2_with (go_at_call 34; refine (HS.out _).mono ?_; rintro e w' ⟨rfl, rfl⟩)
        go_ret
        exact ⟨by rw [HE.out]; rfl, HB.out⟩
  · have HE : Hid (lfC s half rest = 3) := by show _ = _; unfold lfC; rw [if_neg (by rw [hz]; decide)]
    rw [hz] at HS
    clear hz HA1 HA2 Hs1 Hs2
    go_enter Try.func10, Try.ntmps10
    go_wp2_with (go_at_call 34; refine (HS.out _).mono ?_; rintro e w' ⟨rfl, rfl⟩)
    go_ret
    exact ⟨by rw [HE.out]; rfl, HB.out⟩
set_option maxHeartbeats 1000000 in
theorem specSynthFault_calls (s : Int) (vh vr : Value) (half rest : List Int) (w : World) (h1 : Sl .i64 w vh half) (h2 : Sl .i64 w vr rest) (m1 : half.length ≤ 1048576) (m2 : rest.length ≤ 1048576) :
    Calls Try.prog 20 #[.agg #[.int .i64 s, vh, vr]] w fun e w' => e = .returned (.int .i64 (syC s half rest)) ∧ Below w.heap.size w w' := by
  have HS := hid (specSizeFault_calls s)
  have HA1 := hid (fun W (hW : Sl .i64 W vh half) => all_calls vh half (-1073741824) 1073741824 W hW m1)
  have HA2 := hid (fun W (hW : Sl .i64 W vr rest) => all_calls vr rest (-268435456) 268435456 W hW m2)
  have hb := bmore (Below.refl _ w) (.cells #[.int .i64 s, vh, vr] 41)
  have Hs1 := hid (h1.later hb)
  have Hs2 := hid (h2.later hb)
  have HB := hid hb
  obtain ⟨a1, c1, rfl, _⟩ := h1
  obtain ⟨a2, c2, rfl, _⟩ := h2
  clear hb
  rcases sz_03 s with hz | hz
  · obtain ⟨_, e1, e2, e3, e4, e5⟩ := sz_nat hz
    have hm0 : s.tdiv 2 = (hN s : Int) := by rw [Int.tdiv_eq_ediv_of_nonneg (by omega)]; exact e5
    rw [hz] at HS
    have Hz := hid hz
    by_cases hl : half.length = hN s ∧ rest.length = hN s
    · have HL := hid hl
      obtain ⟨hl1, hl2⟩ := hl
      rw [hl1] at HA1
      rw [hl2] at HA2
      rw [hl1, hl2] at HB Hs1 Hs2 ⊢
      have hbd : 0 ≤ s ∧ s ≤ 16 := by omega
      clear e1 e2 e5 hl1 hl2 hz m1 m2
      cases ha1 : half.all (inB (-1073741824) 1073741824)
      · have HE : Hid (syC s half rest = 3) := by show _ = _; unfold syC; rw [if_pos Hz.out, if_pos HL.out, if_neg (by rw [show half.all hdB = false from ha1]; simp)]
        rw [ha1] at HA1
        clear ha1 HL Hz HA2
        generalize hN s = m at *
        go_enter Try.func20, Try.ntmps20
        go_wp2_with (first | (go_at_call 34; refine (HS.out _).mono ?_; rintro e w' ⟨rfl, rfl⟩) | (go_at_call 35; refine (HA1.out _ Hs1.out).mono ?_; rintro e w' ⟨rfl, rfl⟩))
        go_ret
        exact ⟨by rw [HE.out]; rfl, HB.out⟩
      · rw [ha1] at HA1
        cases ha2 : rest.all (inB (-268435456) 268435456)
        · have HE : Hid (syC s half rest = 3) := by show _ = _; unfold syC; rw [if_pos Hz.out, if_pos HL.out, if_neg (by rw [show rest.all tlB = false from ha2]; simp)]
          rw [ha2] at HA2
          clear ha1 ha2 HL Hz
          generalize hN s = m at *
          go_enter Try.func20, Try.ntmps20
          go_wp2_with (go_at_call 34; refine (HS.out _).mono ?_; rintro e w' ⟨rfl, rfl⟩)
          refine (HA1.out _ Hs1.out).mono ?_
          rintro e w' ⟨rfl, rfl⟩
          go_wp2_with fail
          refine (HA2.out _ Hs2.out).mono ?_
          rintro e w' ⟨rfl, rfl⟩
          go_wp2
          go_ret
          exact ⟨by rw [HE.out]; rfl, HB.out⟩
        · have HE : Hid (syC s half rest = 0) := by show _ = _; unfold syC; rw [if_pos Hz.out, if_pos HL.out, if_pos ⟨(show half.all hdB = true from ha1), (show rest.all tlB = true from ha2)⟩]
          rw [ha2] at HA2
          clear ha1 ha2 HL Hz
          generalize hN s = m at *
          go_enter Try.func20, Try.ntmps20
          go_wp2_with (go_at_call 34; refine (HS.out _).mono ?_; rintro e w' ⟨rfl, rfl⟩)
          refine (HA1.out _ Hs1.out).mono ?_
          rintro e w' ⟨rfl, rfl⟩
          go_wp2_with fail
          refine (HA2.out _ Hs2.out).mono ?_
          rintro e w' ⟨rfl, rfl⟩
          go_wp2
          go_ret
          exact ⟨by rw [HE.out]; rfl, HB.out⟩
    · have HE : Hid (syC s half rest = 2) := by show _ = _; unfold syC; rw [if_pos hz, if_neg hl]
      have hbd : 0 ≤ s ∧ s ≤ 16 := by omega
      clear HA1 HA2 e1 e2 e5 hz Hz Hs1 Hs2
      generalize hN s = m at *
      by_cases hl1 : half.length = m
      · have hl2 : ((rest.length : Int) != (m : Int)) = true := by simp; omega
        rw [hl1] at HB ⊢
        clear hl hl1
        go_enter Try.func20, Try.ntmps20
        go_wp2_with (go_at_call 34; refine (HS.out _).mono ?_; rintro e w' ⟨rfl, rfl⟩)
        go_ret
        exact ⟨by rw [HE.out]; rfl, HB.out⟩
      · have hl2 : ((half.length : Int) != (m : Int)) = true := by simp; omega
        clear hl hl1
        go_enter Try.func20, Try.ntmps20
        go_wp2_with (go_at_call 34; refine (HS.out _).mono ?_; rintro e w' ⟨rfl, rfl⟩)
        go_ret
        exact ⟨by rw [HE.out]; rfl, HB.out⟩
  · have HE : Hid (syC s half rest = 3) := by show _ = _; unfold syC; rw [if_neg (by rw [hz]; decide)]
    rw [hz] at HS
    clear hz HA1 HA2 Hs1 Hs2
    go_enter Try.func20, Try.ntmps20
    go_wp2_with (go_at_call 34; refine (HS.out _).mono ?_; rintro e w' ⟨rfl, rfl⟩)
    go_ret
    exact ⟨by rw [HE.out]; rfl, HB.out⟩
/-- A new one: noughts alone. -/
theorem l7New_calls (s : Int) (w : World) (hz : szF s = 0) :
    Calls Try.prog 40 #[.int .i64 s] w fun e w' => ∃ u t, e = .returned (.agg #[.int .i64 s, u, t]) ∧ TW w.heap.size u t (List.replicate (hN s) 0) (List.replicate (hN s) 0) w' ∧ Below w.heap.size w w' := by
  obtain ⟨_, e1, e2, e3, e4, e5⟩ := sz_nat hz
  have hm0 : s.tdiv 2 = (hN s : Int) := by rw [Int.tdiv_eq_ediv_of_nonneg (by omega)]; exact e5
  have hbd : 0 ≤ s ∧ s ≤ 16 := by omega
  have HZ := hid (fun W => zeros_calls (hN s) W (by omega))
  clear e1 e2 e5 hz
  generalize hN s = m at *
  go_enter Try.func40, Try.ntmps40
  go_wp2_with fail
  refine (HZ.out _).mono ?_
  rintro e w1 ⟨rfl, ho1, hb1⟩
  have hs1 := hb1.size
  rw [World.size_alloc] at hs1
  have hB1 := (Blk.new w #[.int .i64 0, .slice none 0 0, .slice none 0 0] 27).later hb1
  have HL1 := hid (bthen (bmore (Below.refl _ w) _) hb1)
  have HO1 := hid ho1
  have HB1 := hid hB1
  clear ho1 hb1 hB1
  rw [World.size_alloc] at HO1
  go_wp2_with fail
  refine (HZ.out _).mono ?_
  rintro e w2 ⟨rfl, ho2, hb2⟩
  have HB2 := hid (HB1.out.later hb2)
  have HL2 := hid (bthen HL1.out hb2)
  have HO2 := hid (HO1.out.later hb2)
  have HP2 := hid (ho2.mono hs1)
  obtain ⟨c0, c1, c2, f0, f1, f2⟩ := HB2.out.three
  have hne : w.heap.size + 1 ≠ w1.heap.size := by have := (HO1.out.block (w.heap.size + 1) rfl).2; omega
  have HT : Hid (TW w.heap.size (.slice (some ⟨w.heap.size + 1, 0, none⟩) m m) (.slice (some ⟨w1.heap.size, 0, none⟩) m m) (List.replicate m 0) (List.replicate m 0) (((w2.setCell ⟨w.heap.size, 0, none⟩ (.int .i64 s)).setCell ⟨w.heap.size, 1, none⟩ (.slice (some ⟨w.heap.size + 1, 0, none⟩) m m)).setCell ⟨w.heap.size, 2, none⟩ (.slice (some ⟨w1.heap.size, 0, none⟩) m m))) :=
    ⟨((HO2.out.over (by omega) (grown_set3 w2 w.heap.size _ _ _)).mono (by omega)), ((HP2.out.over (by omega) (grown_set3 w2 w.heap.size _ _ _)).mono (by omega)), fun g e1 e2 => by simp [Value.ownBlock] at e1 e2; omega⟩
  have HLb := hid (below_cell (below_cell (below_cell HL2.out (Nat.le_refl _) 0 (.int .i64 s)) (Nat.le_refl _) 1 (.slice (some ⟨w.heap.size + 1, 0, none⟩) m m)) (Nat.le_refl _) 2 (.slice (some ⟨w1.heap.size, 0, none⟩) m m))
  clear ho2 hb2 HO1 HB1 HL1 HO2 HP2 HZ
  go_wp2
  exact bodyPost_ret (v := .agg #[.int .i64 s, .slice (some ⟨w.heap.size + 1, 0, none⟩) m m, .slice (some ⟨w1.heap.size, 0, none⟩) m m]) (by simp [results, Try.results40, go_sem, c0, c1, c2]) rfl ⟨_, _, rfl, HT.out, HLb.out⟩
/-- The size and the halves that a new one tells. -/
theorem specNewLap_calls (s : Int) (w : World) :
    Calls Try.prog 14 #[.int .i64 s] w fun e w' => ∃ u t, e = .returned (.agg #[.int .i64 (szF s), .int .i64 (nlS s), u, t]) ∧ TW w.heap.size u t (nlL s) (nlL s) w' ∧ Below w.heap.size w w' := by
  have HS := hid (specSizeFault_calls s)
  rcases sz_03 s with hz | hz
  · have HE : Hid (nlS s = s ∧ nlL s = List.replicate (hN s) 0) := ⟨if_pos hz, if_pos hz⟩
    have HN := hid (fun W => l7New_calls s W hz)
    rw [hz] at HS ⊢
    rw [HE.out.1, HE.out.2]
    clear hz
    generalize List.replicate (hN s) (0 : Int) = Z at *
    go_enter Try.func14, Try.ntmps14
    go_wp2_with (first | (go_at_call 34; refine (HS.out _).mono ?_; rintro e w' ⟨rfl, rfl⟩) | fail)
    refine (HN.out _).mono ?_
    rintro e w1 ⟨u, t, rfl, ht, hb⟩
    have HB := hid ((Blk.new w #[.int .i64 0, .int .i64 0, .slice none 0 0, .slice none 0 0] 32).later hb)
    have HLb := hid (bthen (bmore (Below.refl _ w) _) hb)
    obtain ⟨au, cu, rfl, _⟩ := ht.s.sl
    obtain ⟨at', ct, rfl, _⟩ := ht.d.sl
    have HT := hid (ht.set4 (R := w.heap.size) (by simp) (.int .i64 0) (.int .i64 s) (.slice au Z.length cu) (.slice at' Z.length ct))
    obtain ⟨c0, c1, c2, c3, f0, f1, f2, f3⟩ := HB.out.four
    clear ht hb HN
    go_wp2
    exact bodyPost_ret (v := .agg #[.int .i64 0, .int .i64 s, .slice au Z.length cu, .slice at' Z.length ct]) (by simp [results, Try.results14, go_sem, c0, c1, c2, c3]) rfl ⟨_, _, rfl, HT.out, below_cell (below_cell (below_cell (below_cell HLb.out (Nat.le_refl _) _ _) (Nat.le_refl _) _ _) (Nat.le_refl _) _ _) (Nat.le_refl _) _ _⟩
  · have HE : Hid (nlS s = 0 ∧ nlL s = []) := ⟨if_neg (by rw [hz]; decide), if_neg (by rw [hz]; decide)⟩
    rw [hz] at HS ⊢
    rw [HE.out.1, HE.out.2]
    clear hz
    go_enter Try.func14, Try.ntmps14
    go_wp2_with (go_at_call 34; refine (HS.out _).mono ?_; rintro e w' ⟨rfl, rfl⟩)
    exact bodyPost_ret (v := .agg #[.int .i64 3, .int .i64 0, .slice none 0 0, .slice none 0 0]) (by simp [results, Try.results14, go_sem]) rfl ⟨_, _, rfl, TW.nil _ _, bmore (Below.refl _ _) _⟩
/-- A new one: noughts alone. -/
theorem l7NewSynth_calls (s : Int) (w : World) (hz : szF s = 0) :
    Calls Try.prog 48 #[.int .i64 s] w fun e w' => ∃ u t, e = .returned (.agg #[.int .i64 s, u, t]) ∧ TW w.heap.size u t (List.replicate (hN s) 0) (List.replicate (hN s) 0) w' ∧ Below w.heap.size w w' := by
  obtain ⟨_, e1, e2, e3, e4, e5⟩ := sz_nat hz
  have hm0 : s.tdiv 2 = (hN s : Int) := by rw [Int.tdiv_eq_ediv_of_nonneg (by omega)]; exact e5
  have hbd : 0 ≤ s ∧ s ≤ 16 := by omega
  have HZ := hid (fun W => zeros_calls (hN s) W (by omega))
  clear e1 e2 e5 hz
  generalize hN s = m at *
  go_enter Try.func48, Try.ntmps48
  go_wp2_with fail
  refine (HZ.out _).mono ?_
  rintro e w1 ⟨rfl, ho1, hb1⟩
  have hs1 := hb1.size
  rw [World.size_alloc] at hs1
  have hB1 := (Blk.new w #[.int .i64 0, .slice none 0 0, .slice none 0 0] 41).later hb1
  have HL1 := hid (bthen (bmore (Below.refl _ w) _) hb1)
  have HO1 := hid ho1
  have HB1 := hid hB1
  clear ho1 hb1 hB1
  rw [World.size_alloc] at HO1
  go_wp2_with fail
  refine (HZ.out _).mono ?_
  rintro e w2 ⟨rfl, ho2, hb2⟩
  have HB2 := hid (HB1.out.later hb2)
  have HL2 := hid (bthen HL1.out hb2)
  have HO2 := hid (HO1.out.later hb2)
  have HP2 := hid (ho2.mono hs1)
  obtain ⟨c0, c1, c2, f0, f1, f2⟩ := HB2.out.three
  have hne : w.heap.size + 1 ≠ w1.heap.size := by have := (HO1.out.block (w.heap.size + 1) rfl).2; omega
  have HT : Hid (TW w.heap.size (.slice (some ⟨w.heap.size + 1, 0, none⟩) m m) (.slice (some ⟨w1.heap.size, 0, none⟩) m m) (List.replicate m 0) (List.replicate m 0) (((w2.setCell ⟨w.heap.size, 0, none⟩ (.int .i64 s)).setCell ⟨w.heap.size, 1, none⟩ (.slice (some ⟨w.heap.size + 1, 0, none⟩) m m)).setCell ⟨w.heap.size, 2, none⟩ (.slice (some ⟨w1.heap.size, 0, none⟩) m m))) :=
    ⟨((HO2.out.over (by omega) (grown_set3 w2 w.heap.size _ _ _)).mono (by omega)), ((HP2.out.over (by omega) (grown_set3 w2 w.heap.size _ _ _)).mono (by omega)), fun g e1 e2 => by simp [Value.ownBlock] at e1 e2; omega⟩
  have HLb := hid (below_cell (below_cell (below_cell HL2.out (Nat.le_refl _) 0 (.int .i64 s)) (Nat.le_refl _) 1 (.slice (some ⟨w.heap.size + 1, 0, none⟩) m m)) (Nat.le_refl _) 2 (.slice (some ⟨w1.heap.size, 0, none⟩) m m))
  clear ho2 hb2 HO1 HB1 HL1 HO2 HP2 HZ
  go_wp2
  exact bodyPost_ret (v := .agg #[.int .i64 s, .slice (some ⟨w.heap.size + 1, 0, none⟩) m m, .slice (some ⟨w1.heap.size, 0, none⟩) m m]) (by simp [results, Try.results48, go_sem, c0, c1, c2]) rfl ⟨_, _, rfl, HT.out, HLb.out⟩
/-- The size and the halves that a new one tells. -/
theorem specNewSynth_calls (s : Int) (w : World) :
    Calls Try.prog 24 #[.int .i64 s] w fun e w' => ∃ u t, e = .returned (.agg #[.int .i64 (szF s), .int .i64 (nlS s), u, t]) ∧ TW w.heap.size u t (nlL s) (nlL s) w' ∧ Below w.heap.size w w' := by
  have HS := hid (specSizeFault_calls s)
  rcases sz_03 s with hz | hz
  · have HE : Hid (nlS s = s ∧ nlL s = List.replicate (hN s) 0) := ⟨if_pos hz, if_pos hz⟩
    have HN := hid (fun W => l7NewSynth_calls s W hz)
    rw [hz] at HS ⊢
    rw [HE.out.1, HE.out.2]
    clear hz
    generalize List.replicate (hN s) (0 : Int) = Z at *
    go_enter Try.func24, Try.ntmps24
    go_wp2_with (first | (go_at_call 34; refine (HS.out _).mono ?_; rintro e w' ⟨rfl, rfl⟩) | fail)
    refine (HN.out _).mono ?_
    rintro e w1 ⟨u, t, rfl, ht, hb⟩
    have HB := hid ((Blk.new w #[.int .i64 0, .int .i64 0, .slice none 0 0, .slice none 0 0] 46).later hb)
    have HLb := hid (bthen (bmore (Below.refl _ w) _) hb)
    obtain ⟨au, cu, rfl, _⟩ := ht.s.sl
    obtain ⟨at', ct, rfl, _⟩ := ht.d.sl
    have HT := hid (ht.set4 (R := w.heap.size) (by simp) (.int .i64 0) (.int .i64 s) (.slice au Z.length cu) (.slice at' Z.length ct))
    obtain ⟨c0, c1, c2, c3, f0, f1, f2, f3⟩ := HB.out.four
    clear ht hb HN
    go_wp2
    exact bodyPost_ret (v := .agg #[.int .i64 0, .int .i64 s, .slice au Z.length cu, .slice at' Z.length ct]) (by simp [results, Try.results24, go_sem, c0, c1, c2, c3]) rfl ⟨_, _, rfl, HT.out, below_cell (below_cell (below_cell (below_cell HLb.out (Nat.le_refl _) _ _) (Nat.le_refl _) _ _) (Nat.le_refl _) _ _) (Nat.le_refl _) _ _⟩
  · have HE : Hid (nlS s = 0 ∧ nlL s = []) := ⟨if_neg (by rw [hz]; decide), if_neg (by rw [hz]; decide)⟩
    rw [hz] at HS ⊢
    rw [HE.out.1, HE.out.2]
    clear hz
    go_enter Try.func24, Try.ntmps24
    go_wp2_with (go_at_call 34; refine (HS.out _).mono ?_; rintro e w' ⟨rfl, rfl⟩)
    exact bodyPost_ret (v := .agg #[.int .i64 3, .int .i64 0, .slice none 0 0, .slice none 0 0]) (by simp [results, Try.results24, go_sem]) rfl ⟨_, _, rfl, TW.nil _ _, bmore (Below.refl _ _) _⟩
theorem specSameLaps_calls (s1 s2 : Int) (v1 v2 v3 v4 : Value) (x1 x2 x3 x4 : List Int) (w : World) (h1 : Sl .i64 w v1 x1) (h2 : Sl .i64 w v2 x2) (h3 : Sl .i64 w v3 x3) (h4 : Sl .i64 w v4 x4) (m1 : x1.length ≤ 1048576) (m2 : x2.length ≤ 1048576) (m3 : x3.length ≤ 1048576) (m4 : x4.length ≤ 1048576) :
    Calls Try.prog 29 #[.agg #[.int .i64 s1, v1, v2], .agg #[.int .i64 s2, v3, v4]] w fun e w' => e = .returned (.bool (s1 == s2 && x1 == x3 && x2 == x4)) ∧ Below w.heap.size w w' := by
  have HA1 := hid (fun W (hW : Sl .i64 W v1 x1) (hW2 : Sl .i64 W v3 x3) => same_calls v1 v3 x1 x3 W hW hW2 m1 m3)
  have HA2 := hid (fun W (hW : Sl .i64 W v2 x2) (hW2 : Sl .i64 W v4 x4) => same_calls v2 v4 x2 x4 W hW hW2 m2 m4)
  have hb := bmore (bmore (Below.refl _ w) (.cells #[.int .i64 s1, v1, v2] 27)) (.cells #[.int .i64 s2, v3, v4] 27)
  have H1 := hid (h1.later hb)
  have H2 := hid (h2.later hb)
  have H3 := hid (h3.later hb)
  have H4 := hid (h4.later hb)
  have HB := hid hb
  obtain ⟨a1, c1, rfl, _⟩ := h1
  obtain ⟨a2, c2, rfl, _⟩ := h2
  obtain ⟨a3, c3, rfl, _⟩ := h3
  obtain ⟨a4, c4, rfl, _⟩ := h4
  clear hb
  cases hs : (s1 == s2)
  · rw [show (false && x1 == x3 && x2 == x4) = false from rfl]
    go_enter Try.func29, Try.ntmps29
    go_wp2
    go_ret
    exact ⟨rfl, HB.out⟩
  · cases hx : (x1 == x3)
    · rw [hx] at HA1
      rw [show (true && false && x2 == x4) = false from rfl]
      clear hx
      go_enter Try.func29, Try.ntmps29
      go_wp2_with fail
      refine (HA1.out _ H1.out H3.out).mono ?_
      rintro e w1 ⟨rfl, hb1⟩
      have HB1 := hid (bthen HB.out hb1)
      clear hb1
      go_wp2
      go_ret
      exact ⟨rfl, HB1.out⟩
    · rw [hx] at HA1
      rw [show (true && true && x2 == x4) = (x2 == x4) from rfl]
      clear hx
      generalize (x2 == x4) = bb at *
      go_enter Try.func29, Try.ntmps29
      go_wp2_with fail
      refine (HA1.out _ H1.out H3.out).mono ?_
      rintro e w1 ⟨rfl, hb1⟩
      have HB1 := hid (bthen HB.out hb1)
      have H21 := hid (H2.out.later hb1)
      have H41 := hid (H4.out.later hb1)
      obtain ⟨hP, hQ, _, _⟩ := boxes2 hb1
      obtain ⟨p0, p1, p2, _⟩ := hP.three
      obtain ⟨q0, q1, q2, _⟩ := hQ.three
      clear hb1 hP hQ H1 H3
      go_wp2_with fail
      refine (HA2.out _ H21.out H41.out).mono ?_
      rintro e w2 ⟨rfl, hb2⟩
      have HB2 := hid (bthen HB1.out hb2)
      clear hb2
      go_wp2
      go_ret
      exact ⟨rfl, HB2.out⟩
theorem specSameSynths_calls (s1 s2 : Int) (v1 v2 v3 v4 : Value) (x1 x2 x3 x4 : List Int) (w : World) (h1 : Sl .i64 w v1 x1) (h2 : Sl .i64 w v2 x2) (h3 : Sl .i64 w v3 x3) (h4 : Sl .i64 w v4 x4) (m1 : x1.length ≤ 1048576) (m2 : x2.length ≤ 1048576) (m3 : x3.length ≤ 1048576) (m4 : x4.length ≤ 1048576) :
    Calls Try.prog 31 #[.agg #[.int .i64 s1, v1, v2], .agg #[.int .i64 s2, v3, v4]] w fun e w' => e = .returned (.bool (s1 == s2 && x1 == x3 && x2 == x4)) ∧ Below w.heap.size w w' := by
  have HA1 := hid (fun W (hW : Sl .i64 W v1 x1) (hW2 : Sl .i64 W v3 x3) => same_calls v1 v3 x1 x3 W hW hW2 m1 m3)
  have HA2 := hid (fun W (hW : Sl .i64 W v2 x2) (hW2 : Sl .i64 W v4 x4) => same_calls v2 v4 x2 x4 W hW hW2 m2 m4)
  have hb := bmore (bmore (Below.refl _ w) (.cells #[.int .i64 s1, v1, v2] 41)) (.cells #[.int .i64 s2, v3, v4] 41)
  have H1 := hid (h1.later hb)
  have H2 := hid (h2.later hb)
  have H3 := hid (h3.later hb)
  have H4 := hid (h4.later hb)
  have HB := hid hb
  obtain ⟨a1, c1, rfl, _⟩ := h1
  obtain ⟨a2, c2, rfl, _⟩ := h2
  obtain ⟨a3, c3, rfl, _⟩ := h3
  obtain ⟨a4, c4, rfl, _⟩ := h4
  clear hb
  cases hs : (s1 == s2)
  · rw [show (false && x1 == x3 && x2 == x4) = false from rfl]
    go_enter Try.func31, Try.ntmps31
    go_wp2
    go_ret
    exact ⟨rfl, HB.out⟩
  · cases hx : (x1 == x3)
    · rw [hx] at HA1
      rw [show (true && false && x2 == x4) = false from rfl]
      clear hx
      go_enter Try.func31, Try.ntmps31
      go_wp2_with fail
      refine (HA1.out _ H1.out H3.out).mono ?_
      rintro e w1 ⟨rfl, hb1⟩
      have HB1 := hid (bthen HB.out hb1)
      clear hb1
      go_wp2
      go_ret
      exact ⟨rfl, HB1.out⟩
    · rw [hx] at HA1
      rw [show (true && true && x2 == x4) = (x2 == x4) from rfl]
      clear hx
      generalize (x2 == x4) = bb at *
      go_enter Try.func31, Try.ntmps31
      go_wp2_with fail
      refine (HA1.out _ H1.out H3.out).mono ?_
      rintro e w1 ⟨rfl, hb1⟩
      have HB1 := hid (bthen HB.out hb1)
      have H21 := hid (H2.out.later hb1)
      have H41 := hid (H4.out.later hb1)
      obtain ⟨hP, hQ, _, _⟩ := boxes2 hb1
      obtain ⟨p0, p1, p2, _⟩ := hP.three
      obtain ⟨q0, q1, q2, _⟩ := hQ.three
      clear hb1 hP hQ H1 H3
      go_wp2_with fail
      refine (HA2.out _ H21.out H41.out).mono ?_
      rintro e w2 ⟨rfl, hb2⟩
      have HB2 := hid (bthen HB1.out hb2)
      clear hb2
      go_wp2
      go_ret
      exact ⟨rfl, HB2.out⟩
end Go.Proofs.Ytonpffmncghkaaa.LapS
