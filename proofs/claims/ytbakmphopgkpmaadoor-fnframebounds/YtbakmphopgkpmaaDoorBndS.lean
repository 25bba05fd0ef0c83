/- TurnBounds and PartBounds of the model: what they return at every argument. No conditions. -/
import Derived.Test.YtbakmphopgkpmaaDoorGb
import Derived.Test.YtbakmphopgkpmaaDoorTurS
namespace Go.Proofs.YtbakmphopgkpmaaDoor.BndS
open Go.ChangeShapes Go.WideShapes Go.ChangeAt Go.RowKit Go.Proofs.YtbakmphopgkpmaaDoor.Num Go.Proofs.YtbakmphopgkpmaaDoor.Sli Go.Proofs.YtbakmphopgkpmaaDoor.Div Go.Proofs.YtbakmphopgkpmaaDoor.Samp Go.Proofs.YtbakmphopgkpmaaDoor.Blk Go.Proofs.YtbakmphopgkpmaaDoor.TurM Go.Proofs.YtbakmphopgkpmaaDoor.Par Go.Proofs.YtbakmphopgkpmaaDoor.TurS Go.Proofs.YtbakmphopgkpmaaDoor.BndM

/-- How great bounds become. -/
theorem sh_bd {p e P E : Int} (h0 : 0 ≤ p) (h1 : p ≤ P) (h2 : 0 ≤ e) (h3 : e ≤ E) : (0 ≤ p * e ∧ p * e ≤ P * E) ∧ 0 ≤ shV p e ∧ shV p e ≤ P * E / 1024 + 1 := by
  have a1 := Int.mul_le_mul_of_nonneg_left h3 h0
  have a2 := Int.mul_le_mul_of_nonneg_right h1 (show 0 ≤ E by omega)
  have a3 := Int.mul_nonneg h0 h2
  refine ⟨⟨a3, by omega⟩, ?_, ?_⟩
  · unfold shV ceilV; omega
  · unfold shV ceilV; omega
theorem tb_bd {p u a b : Int} (hp : 1 ≤ p ∧ p ≤ 395 ∧ 1 ≤ u ∧ u ≤ 688) (ha : 0 ≤ a ∧ a ≤ 137438953472) (hb : 0 ≤ b ∧ b ≤ 137438953472) :
    (0 ≤ p * b ∧ p * b ≤ 60000000000000) ∧ (0 ≤ shV p b ∧ shV p b ≤ 54000000000) ∧
    (0 ≤ u * (a + shV p b) ∧ u * (a + shV p b) ≤ 140000000000000) ∧ (0 ≤ shV u (a + shV p b) ∧ shV u (a + shV p b) ≤ 130000000000) ∧
    (0 ≤ p * (b + shV u (a + shV p b)) ∧ p * (b + shV u (a + shV p b)) ≤ 110000000000000) ∧ (0 ≤ shV p (b + shV u (a + shV p b)) ∧ shV p (b + shV u (a + shV p b)) ≤ 110000000000) := by
  obtain ⟨m1, t1, t1'⟩ := sh_bd (by omega : 0 ≤ p) hp.2.1 hb.1 hb.2
  obtain ⟨m2, t2, t2'⟩ := sh_bd (p := u) (e := a + shV p b) (P := 688) (E := 190500000000) (by omega) hp.2.2.2 (by omega) (by omega)
  obtain ⟨m3, t3, t3'⟩ := sh_bd (p := p) (e := b + shV u (a + shV p b)) (P := 395) (E := 266000000000) (by omega) hp.2.1 (by omega) (by omega)
  refine ⟨⟨by omega, by omega⟩, ⟨by omega, by omega⟩, ⟨by omega, by omega⟩, ⟨by omega, by omega⟩, ⟨by omega, by omega⟩, ⟨by omega, by omega⟩⟩
theorem tb_yes {s n a b : Int} (h : tbO s n a b = true) : tbC s n a b = 0 ∧ tbX s n a b = tbA (pV s n) (uV s n) a b ∧ tbY s n a b = tbB (pV s n) (uV s n) a b := ⟨if_pos h, if_pos h, if_pos h⟩
theorem tb_no {s n a b : Int} (h : tbO s n a b = false) : tbC s n a b = 3 ∧ tbX s n a b = 0 ∧ tbY s n a b = 0 := by
  have h' : ¬ tbO s n a b = true := by rw [h]; simp
  exact ⟨if_neg h', if_neg h', if_neg h'⟩
theorem l8Share_calls (p e : Int) (w : World) (h1 : 0 ≤ p * e) (h2 : p * e ≤ 9007199254740992) :
    Calls Tryd.prog 100 #[.int .i64 p, .int .i64 e] w fun r w' => r = .returned (.int .i64 (shV p e)) ∧ w' = w := by
  have HC := hid (fun W => l1Ceil_calls (p * e) 1024 W (by omega) (by omega) h1 h2)
  have HE : Hid (shV p e = ceilV (p * e) 1024) := rfl
  generalize shV p e = r at *
  rw [← HE.out] at HC
  go_enter Tryd.func100, Tryd.ntmps100
  go_wp2_with fail
  refine (HC.out _).mono ?_
  rintro e w' ⟨rfl, rfl⟩
  go_wp2
  go_ret
  exact ⟨rfl, rfl⟩
set_option maxHeartbeats 2000000 in
theorem l8Turn_calls (s n a b : Int) (w : World) (h : tOk s n = true) (ha : 0 ≤ a ∧ a ≤ 137438953472) (hb : 0 ≤ b ∧ b ≤ 137438953472) :
    Calls Tryd.prog 55 #[.int .i64 s, .int .i64 n, .int .i64 a, .int .i64 b] w fun e w' => e = .returned (.tuple #[.int .i64 (tbA (pV s n) (uV s n) a b), .int .i64 (tbB (pV s n) (uV s n) a b)]) ∧ w' = w := by
  obtain ⟨m1, t1, m2, t2, m3, t3⟩ := tb_bd (pu_bd h) ha hb
  have HP := hid (fun W => l5P_calls s n W h)
  have HU := hid (fun W => l5U_calls s n W h)
  have HS1 := hid (fun W => l8Share_calls (pV s n) b W m1.1 (by omega))
  have HS2 := hid (fun W => l8Share_calls (uV s n) (a + shV (pV s n) b) W m2.1 (by omega))
  have HS3 := hid (fun W => l8Share_calls (pV s n) (b + shV (uV s n) (a + shV (pV s n) b)) W m3.1 (by omega))
  have HE : Hid (tbA (pV s n) (uV s n) a b = (a + shV (pV s n) b) + shV (pV s n) (b + shV (uV s n) (a + shV (pV s n) b)) ∧ tbB (pV s n) (uV s n) a b = b + shV (uV s n) (a + shV (pV s n) b)) := ⟨rfl, rfl⟩
  generalize tbA (pV s n) (uV s n) a b = rA at *
  generalize tbB (pV s n) (uV s n) a b = rB at *
  clear h m1 m2 m3
  generalize pV s n = p at *
  generalize uV s n = u at *
  generalize shV p (b + shV u (a + shV p b)) = x3 at *
  generalize shV u (a + shV p b) = x2 at *
  generalize shV p b = x1 at *
  go_enter Tryd.func55, Tryd.ntmps55
  go_wp2_with fail
  refine (HP.out _).mono ?_
  rintro e w' ⟨rfl, rfl⟩
  go_wp2_with fail
  refine (HS1.out _).mono ?_
  rintro e w' ⟨rfl, rfl⟩
  go_wp2_with fail
  refine (HU.out _).mono ?_
  rintro e w' ⟨rfl, rfl⟩
  go_wp2_with fail
  refine (HS2.out _).mono ?_
  rintro e w' ⟨rfl, rfl⟩
  go_wp2_with fail
  refine (HP.out _).mono ?_
  rintro e w' ⟨rfl, rfl⟩
  go_wp2_with fail
  refine (HS3.out _).mono ?_
  rintro e w' ⟨rfl, rfl⟩
  go_wp2
  exact bodyPost_ret (v := .tuple #[.int .i64 rA, .int .i64 rB]) (by rw [HE.out.1, HE.out.2]; simp [results, Tryd.results55, go_sem]) rfl ⟨rfl, rfl⟩
theorem l8Bounds_calls (a b : Int) (w : World) :
    Calls Tryd.prog 54 #[.int .i64 a, .int .i64 b] w fun e w' => e = .returned (.bool (bdB a && bdB b)) ∧ w' = w := by
  have HI := hid l1In_calls
  cases h : bdB a
  · unfold bdB at h
    go_enter Tryd.func54, Tryd.ntmps54
    go_wp2_with (go_at_call 97; refine (HI.out _ _ _ _).mono ?_; rintro e w' ⟨rfl, rfl⟩; simp only [h])
    go_ret
    exact ⟨rfl, rfl⟩
  · unfold bdB at h
    go_enter Tryd.func54, Tryd.ntmps54
    go_wp2_with fail
    refine (HI.out _ _ _ _).mono ?_
    rintro e w' ⟨rfl, rfl⟩
    rw [h]
    go_wp2_with fail
    refine (HI.out _ _ _ _).mono ?_
    rintro e w' ⟨rfl, rfl⟩
    go_wp2
    go_ret
    exact ⟨rfl, rfl⟩
theorem fieldP0 (c a b : Value) (w : World) : (Instr.field 27 (.agg #[c, a, b]) 0).run Tryd.prog w = .ok c w := by kernel_rfl
attribute [local go_sem] fieldP0
set_option maxHeartbeats 2000000 in
theorem specTurnBounds_calls (s n a b : Int) (w : World) :
    Calls Tryd.prog 14 #[.int .i64 s, .int .i64 n, .int .i64 a, .int .i64 b] w fun e w' => e = .returned (.agg #[.int .i64 (tbC s n a b), .int .i64 (tbX s n a b), .int .i64 (tbY s n a b)]) ∧ Below w.heap.size w w' := by
  have HT := hid (specTurnOf_calls s n)
  have HW := hid (l8Bounds_calls a b)
  have hb0 := hid (bmore (Below.refl _ w) (.cells #[.int .i64 0, .int .i64 0, .int .i64 0] 27))
  have HP := hid (Blk.new w #[.int .i64 0, .int .i64 0, .int .i64 0] 27)
  cases ht : tOk s n
  · have HE : Hid (tbC s n a b = 3 ∧ tbX s n a b = 0 ∧ tbY s n a b = 0) := tb_no (by unfold tbO; rw [ht]; rfl)
    obtain ⟨e1, -, -⟩ := t_no ht
    rw [e1] at HT
    rw [HE.out.1, HE.out.2.1, HE.out.2.2]
    clear ht HW HE e1
    generalize tA s n = xa at *
    generalize tB s n = xb at *
    go_enter Tryd.func14, Tryd.ntmps14
    go_wp2_with fail
    refine (HT.out _).mono ?_
    rintro e w1 ⟨rfl, hb1⟩
    have HB1 := hid (bthen hb0.out hb1)
    obtain ⟨r0, r1, r2, q0, q1, q2⟩ := (HP.out.later hb1).three
    clear hb1
    go_wp2
    exact bodyPost_ret (v := .agg #[.int .i64 3, .int .i64 0, .int .i64 0]) (by simp [results, Tryd.results14, go_sem, r0, r1, r2]) rfl ⟨rfl, below_cell (below_cell (below_cell HB1.out (Nat.le_refl _) _ _) (Nat.le_refl _) _ _) (Nat.le_refl _) _ _⟩
  · obtain ⟨e1, -, -⟩ := t_yes ht
    rw [e1] at HT
    cases hw : bdB a && bdB b
    · have HE : Hid (tbC s n a b = 3 ∧ tbX s n a b = 0 ∧ tbY s n a b = 0) := tb_no (by unfold tbO; rw [ht, hw]; rfl)
      rw [hw] at HW
      rw [HE.out.1, HE.out.2.1, HE.out.2.2]
      clear ht hw HE e1
      generalize tA s n = xa at *
      generalize tB s n = xb at *
      go_enter Tryd.func14, Tryd.ntmps14
      go_wp2_with fail
      refine (HT.out _).mono ?_
      rintro e w1 ⟨rfl, hb1⟩
      have HB1 := hid (bthen hb0.out hb1)
      obtain ⟨r0, r1, r2, q0, q1, q2⟩ := (HP.out.later hb1).three
      clear hb1
      go_wp2_with fail
      refine (HW.out _).mono ?_
      rintro e w2 ⟨rfl, rfl⟩
      go_wp2
      exact bodyPost_ret (v := .agg #[.int .i64 3, .int .i64 0, .int .i64 0]) (by simp [results, Tryd.results14, go_sem, r0, r1, r2]) rfl ⟨rfl, below_cell (below_cell (below_cell HB1.out (Nat.le_refl _) _ _) (Nat.le_refl _) _ _) (Nat.le_refl _) _ _⟩
    · have HE := hid (tb_yes (s := s) (n := n) (a := a) (b := b) (by unfold tbO; rw [ht, hw]; rfl))
      have hw2 : bdB a = true ∧ bdB b = true := by simpa using hw
      have HT8 := hid (fun W => l8Turn_calls s n a b W ht (of_inB hw2.1) (of_inB hw2.2))
      rw [hw] at HW
      rw [HE.out.1, HE.out.2.1, HE.out.2.2]
      clear ht hw HE e1 hw2
      generalize tbA (pV s n) (uV s n) a b = rA at *
      generalize tbB (pV s n) (uV s n) a b = rB at *
      generalize tA s n = xa at *
      generalize tB s n = xb at *
      go_enter Tryd.func14, Tryd.ntmps14
      go_wp2_with fail
      refine (HT.out _).mono ?_
      rintro e w1 ⟨rfl, hb1⟩
      have HB1 := hid (bthen hb0.out hb1)
      obtain ⟨r0, r1, r2, q0, q1, q2⟩ := (HP.out.later hb1).three
      clear hb1
      go_wp2_with fail
      refine (HW.out _).mono ?_
      rintro e w2 ⟨rfl, rfl⟩
      go_wp2_with fail
      refine (HT8.out _).mono ?_
      rintro e w2 ⟨rfl, rfl⟩
      go_wp2
      exact bodyPost_ret (v := .agg #[.int .i64 0, .int .i64 rA, .int .i64 rB]) (by simp [results, Tryd.results14, go_sem, r0, r1, r2]) rfl ⟨rfl, below_cell (below_cell (below_cell HB1.out (Nat.le_refl _) _ _) (Nat.le_refl _) _ _) (Nat.le_refl _) _ _⟩
theorem specPartBounds_calls (s d : Int) (w : World) :
    Calls Tryd.prog 15 #[.int .i64 s, .int .i64 d] w fun e w' => e = .returned (.agg #[.int .i64 (pbC s d), .int .i64 (pbE s d), .int .i64 (pbE s d)]) ∧ Below w.heap.size w w' := by
  have HW := hid (l8Bounds_calls s d)
  cases hw : bdB s && bdB d
  · rw [hw] at HW
    rw [show pbC s d = 3 from if_neg (by rw [hw]; simp), show pbE s d = 0 from if_neg (by rw [hw]; simp)]
    clear hw
    go_enter Tryd.func15, Tryd.ntmps15
    go_wp2_with fail
    refine (HW.out _).mono ?_
    rintro e w2 ⟨rfl, rfl⟩
    go_wp2
    exact bodyPost_ret (v := .agg #[.int .i64 3, .int .i64 0, .int .i64 0]) (by simp [results, Tryd.results15, go_sem]) rfl ⟨rfl, bmore (Below.refl _ _) _⟩
  · have hw2 : bdB s = true ∧ bdB d = true := by simpa using hw
    have hs := of_inB hw2.1
    have hd := of_inB hw2.2
    have HC := hid (fun W => l1Ceil_calls d 2 W (by omega) (by omega) hd.1 (by omega))
    have hcb := ceilV_bd d 2 hd.1 (by omega)
    rw [hw] at HW
    rw [show pbC s d = 0 from if_pos hw, show pbE s d = s + ceilV d 2 from if_pos hw]
    clear hw hw2
    generalize ceilV d 2 = c at *
    go_enter Tryd.func15, Tryd.ntmps15
    go_wp2_with fail
    refine (HW.out _).mono ?_
    rintro e w2 ⟨rfl, rfl⟩
    go_wp2_with fail
    refine (HC.out _).mono ?_
    rintro e w2 ⟨rfl, rfl⟩
    go_wp2
    exact bodyPost_ret (v := .agg #[.int .i64 0, .int .i64 (s + c), .int .i64 (s + c)]) (by simp [results, Tryd.results15, go_sem]) rfl ⟨rfl, bmore (Below.refl _ _) _⟩
end Go.Proofs.YtbakmphopgkpmaaDoor.BndS
