/- TurnBounds and PartBounds of the model: what they return at every argument. No conditions. -/
import Derived.Test.YtcanknlelbomnaaGb
import Derived.Test.YtcanknlelbomnaaTurS
namespace Go.Proofs.Ytcanknlelbomnaa.BndS
open Go.ChangeShapes Go.WideShapes Go.ChangeAt Go.RowKit Go.Proofs.Ytcanknlelbomnaa.Num Go.Proofs.Ytcanknlelbomnaa.Sli Go.Proofs.Ytcanknlelbomnaa.Div Go.Proofs.Ytcanknlelbomnaa.Samp Go.Proofs.Ytcanknlelbomnaa.Blk Go.Proofs.Ytcanknlelbomnaa.TurM Go.Proofs.Ytcanknlelbomnaa.Par Go.Proofs.Ytcanknlelbomnaa.TurS Go.Proofs.Ytcanknlelbomnaa.BndM

/-- How great bounds become. -/
theorem sh_bd {p e P E : Int} (h0 : 0 ≤ p) (h1 : p ≤ P) (h2 : 0 ≤ e) (h3 : e ≤ E) : (0 ≤ p * e ∧ p * e ≤ P * E) ∧ 0 ≤ shV p e ∧ shV p e ≤ P * E / 1024 + 1 := by
  have a1 := Int.mul_le_mul_of_nonneg_left h3 h0
  have a2 := Int.mul_le_mul_of_nonneg_right h1 (show 0 ≤ E by omega)
  have a3 := Int.mul_nonneg h0 h2
  refine ⟨⟨a3, by omega⟩, ?_, ?_⟩
  · unfold shV ceilV; omega
  · unfold shV ceilV; omega
theorem tb_bd {p u a b : Int} (hp : 1 ≤ p ∧ p ≤ 395 ∧ 1 ≤ u ∧ u ≤ 688) (ha : 0 ≤ a ∧ a ≤ 137438953472) (hb : 0 ≤ b ∧ b ≤ 137438953472) :
    (0 ≤ p * b ∧ p * b ≤ 60000000000000) ∧ (0 ≤ shV p b ∧ shV p b ≤ 54000000000) ∧
    (0 ≤ u * (a + shV p b) ∧ u * (a + shV p b) ≤ 140000000000000) ∧ (0 ≤ shV u (a + shV p b) ∧ shV u (a + shV p b) ≤ 130000000000) ∧
    (0 ≤ p * (b + shV u (a + shV p b)) ∧ p * (b + shV u (a + shV p b)) ≤ 110000000000000) ∧ (0 ≤ shV p (b + shV u (a + shV p b)) ∧ shV p (b + shV u (a + shV p b)) ≤ 110000000000) := by
  obtain ⟨m1, t1, t1'⟩ := sh_bd (by omega : 0 ≤ p) hp.2.1 hb.1 hb.2
  obtain ⟨m2, t2, t2'⟩ := sh_bd (p := u) (e := a + shV p b) (P := 688) (E := 190500000000) (by omega) hp.2.2.2 (by omega) (by omega)
  obtain ⟨m3, t3, t3'⟩ := sh_bd (p := p) (e := b + shV u (a + shV p b)) (P := 395) (E := 266000000000) (by omega) hp.2.1 (by omega) (by omega)
  refine ⟨⟨by omega, by omega⟩, ⟨by omega, by omega⟩, ⟨by omega, by omega⟩, ⟨by omega, by omega⟩, ⟨by omega, by omega⟩, ⟨by omega, by omega⟩⟩
theorem tb_yes {s n a b : Int} (h : tbO s n a b = true) : tbC s n a b = 0 ∧ tbX s n a b = tbA (pV s n) (uV s n) a b ∧ tbY s n a b = tbB (pV s n) (uV s n) a b := ⟨if_pos h, if_pos h, if_pos h⟩
theorem tb_no {s n a b : Int} (h : tbO s n a b = false) : tbC s n a b = 3 ∧ tbX s n a b = 0 ∧ tbY s n a b = 0 := by
  have h' : ¬ tbO s n a b = true := by rw [h]; simp
  exact ⟨if_neg h', if_neg h', if_neg h'⟩
theorem l8Bounds_calls (a b : Int) (w : World) :
    Calls Try.prog 25 #[.int .i64 a, .int .i64 b] w fun e w' => e = .returned (.bool (bdB a && bdB b)) ∧ w' = w := by
  have HI := hid l1In_calls
  cases h : bdB a
  · unfold bdB at h
    go_enter Try.func25, Try.ntmps25
    go_wp2_with (go_at_call 36; refine (HI.out _ _ _ _).mono ?_; rintro e w' ⟨rfl, rfl⟩; simp only [h])
    go_ret
    exact ⟨rfl, rfl⟩
  · unfold bdB at h
    go_enter Try.func25, Try.ntmps25
    go_wp2_with fail
    refine (HI.out _ _ _ _).mono ?_
    rintro e w' ⟨rfl, rfl⟩
    rw [h]
    go_wp2_with fail
    refine (HI.out _ _ _ _).mono ?_
    rintro e w' ⟨rfl, rfl⟩
    go_wp2
    go_ret
    exact ⟨rfl, rfl⟩
theorem specPartBounds_calls (s d : Int) (w : World) :
    Calls Try.prog 14 #[.int .i64 s, .int .i64 d] w fun e w' => e = .returned (.agg #[.int .i64 (pbC s d), .int .i64 (pbE s d), .int .i64 (pbE s d)]) ∧ Below w.heap.size w w' := by
  have HW := hid (l8Bounds_calls s d)
  cases hw : bdB s && bdB d
  · rw [hw] at HW
    rw [show pbC s d = 3 from if_neg (by rw [hw]; simp), show pbE s d = 0 from if_neg (by rw [hw]; simp)]
    clear hw
    go_enter Try.func14, Try.ntmps14
    go_wp2_with fail
    refine (HW.out _).mono ?_
    rintro e w2 ⟨rfl, rfl⟩
    go_wp2
    exact bodyPost_ret (v := .agg #[.int .i64 3, .int .i64 0, .int .i64 0]) (by simp [results, Try.results14, go_sem]) rfl ⟨rfl, bmore (Below.refl _ _) _⟩
  · have hw2 : bdB s = true ∧ bdB d = true := by simpa using hw
    have hs := of_inB hw2.1
    have hd := of_inB hw2.2
    have HC := hid (fun W => l1Ceil_calls d 2 W (by omega) (by omega) hd.1 (by omega))
    have hcb := ceilV_bd d 2 hd.1 (by omega)
    rw [hw] at HW
    rw [show pbC s d = 0 from if_pos hw, show pbE s d = s + ceilV d 2 from if_pos hw]
    clear hw hw2
    generalize ceilV d 2 = c at *
    go_enter Try.func14, Try.ntmps14
    go_wp2_with fail
    refine (HW.out _).mono ?_
    rintro e w2 ⟨rfl, rfl⟩
    go_wp2_with fail
    refine (HC.out _).mono ?_
    rintro e w2 ⟨rfl, rfl⟩
    go_wp2
    exact bodyPost_ret (v := .agg #[.int .i64 0, .int .i64 (s + c), .int .i64 (s + c)]) (by simp [results, Try.results14, go_sem]) rfl ⟨rfl, bmore (Below.refl _ _) _⟩
end Go.Proofs.Ytcanknlelbomnaa.BndS
