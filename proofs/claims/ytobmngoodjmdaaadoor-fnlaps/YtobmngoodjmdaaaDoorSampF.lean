/- SamplesFault, the program's and the model's: both return the same code at every size and list. Condition: none but that the slice holds its numbers. -/
import Derived.Test.YtobmngoodjmdaaaDoorSamp
namespace Go.Proofs.YtobmngoodjmdaaaDoor.SampF
open Go.ChangeShapes Go.WideShapes Go.ChangeAt Go.RowKit Go.Proofs.YtobmngoodjmdaaaDoor.Num Go.Proofs.YtobmngoodjmdaaaDoor.Sli Go.Proofs.YtobmngoodjmdaaaDoor.Div Go.Proofs.YtobmngoodjmdaaaDoor.Samp

def smF (s : Int) (xs : List Int) : Int := if szF s = 0 then (if (xs.length : Int) = s then (if xs.all sampB = true then 0 else 3) else 2) else 3
theorem szF_03 (s : Int) : szF s = 0 ∨ szF s = 3 := by unfold szF; split <;> simp
theorem szF_bd {s : Int} (h : szF s = 0) : 4 ≤ s ∧ s ≤ 16 := by
  unfold szF at h; split at h
  · omega
  · cases h
theorem smF_size {s : Int} {xs : List Int} (h : szF s = 3) : 3 = smF s xs := by unfold smF; rw [h]; rfl
theorem smF_many {s : Int} {xs : List Int} (h : szF s = 0) (hl : ¬ (xs.length : Int) = s) : 2 = smF s xs := by unfold smF; rw [if_pos h, if_neg hl]
theorem smF_yes {s : Int} {xs : List Int} (h : szF s = 0) (hl : (xs.length : Int) = s) (ha : xs.all sampB = true) : 0 = smF s xs := by unfold smF; rw [if_pos h, if_pos hl, if_pos ha]
theorem smF_no {s : Int} {xs : List Int} (h : szF s = 0) (hl : (xs.length : Int) = s) (ha : xs.all sampB = false) : 3 = smF s xs := by unfold smF; rw [if_pos h, if_pos hl, if_neg (by rw [ha]; simp)]
theorem half16_all (xs : List Int) : (half16 xs xs.length).all sampB = xs.all sampB := by
  unfold half16
  rw [List.take_length, List.all_append, List.all_replicate]
  have : sampB 0 = true := rfl
  rw [this]; simp

theorem implSamplesFault_calls (s : Int) (v : Value) (xs : List Int) (w : World) (h : Sl .i64 w v xs) :
    Calls Tryd.prog 52 #[.int .i64 s, v] w fun e w' => e = .returned (.int .i64 (smF s xs)) ∧ Below w.heap.size w w' := by
  have h' := h
  obtain ⟨a, cap, rfl, _⟩ := h'
  rcases szF_03 s with hz | hz
  · have hbd := szF_bd hz
    by_cases hl : (xs.length : Int) = s
    · have HY : Hid (xs.all sampB = true → 0 = smF s xs) := fun ha => smF_yes hz hl ha
      have HN : Hid (xs.all sampB = false → 3 = smF s xs) := fun ha => smF_no hz hl ha
      have Hh : Hid ((half16 xs xs.length).all sampB = xs.all sampB) := half16_all xs
      have hln : xs.length ≤ 16 := by omega
      have Hl16 : Hid ((half16 xs xs.length).length = 16) := half16_len xs _ (Nat.le_refl _) hln
      have hne : ((xs.length : Int) != s) = false := by rw [hl]; simp
      have Hsl : Hid (Sl .i64 w (.slice a xs.length cap) xs) := h
      clear h hl
      go_enter Tryd.func52, Tryd.ntmps52
      go_wp2_with (first | (go_at_call 44; refine (implSizeFault_calls _ _).mono ?_; rintro e w' ⟨rfl, rfl⟩) | fail)
      refine (samplesOf_calls _ xs _ Hsl.out hln).mono ?_
      rintro e w1 ⟨rfl, hb1⟩
      go_wp2_with fail
      refine (areSamples_calls _ _ Hl16.out).mono ?_
      rw [Hh.out]
      rintro e w2 ⟨rfl, hb2⟩
      have hb := bthen hb1 hb2
      cases ha : xs.all sampB
      · have H : Hid (3 = smF s xs) := HN.out ha
        go_wp2
        go_ret
        exact ⟨ret_int H.out, hb⟩
      · have H : Hid (0 = smF s xs) := HY.out ha
        go_wp2
        go_ret
        exact ⟨ret_int H.out, hb⟩
    · have H : Hid (2 = smF s xs) := smF_many hz hl
      have hne : ((xs.length : Int) != s) = true := by rw [bne_iff_ne]; exact hl
      clear h
      go_enter Tryd.func52, Tryd.ntmps52
      go_wp2_with (go_at_call 44; refine (implSizeFault_calls _ _).mono ?_; rintro e w' ⟨rfl, rfl⟩)
      go_ret
      exact ⟨ret_int H.out, Below.refl _ _⟩
  · have H : Hid (3 = smF s xs) := smF_size hz
    clear h
    go_enter Tryd.func52, Tryd.ntmps52
    go_wp2_with (go_at_call 44; refine (implSizeFault_calls _ _).mono ?_; rintro e w' ⟨rfl, rfl⟩)
    go_ret
    exact ⟨ret_int H.out, Below.refl _ _⟩

set_option maxHeartbeats 1000000 in
theorem specSamplesFault_calls (s : Int) (v : Value) (xs : List Int) (w : World) (h : Sl .i64 w v xs) :
    Calls Tryd.prog 64 #[.int .i64 s, v] w fun e w' => e = .returned (.int .i64 (smF s xs)) ∧ Below w.heap.size w w' := by
  obtain ⟨a, cap, rfl, hc⟩ := h
  rcases szF_03 s with hz | hz
  · have hbd := szF_bd hz
    by_cases hl : (xs.length : Int) = s
    · have HY : Hid (xs.all sampB = true → 0 = smF s xs) := fun ha => smF_yes hz hl ha
      have HN : Hid (xs.all sampB = false → 3 = smF s xs) := fun ha => smF_no hz hl ha
      have hln : xs.length ≤ 16 := by omega
      have hne : ((xs.length : Int) != s) = false := by rw [hl]; simp
      obtain ⟨b, off, rfl, hlt, hcell⟩ := hc (by intro e; subst e; simp at hl; omega)
      clear hl hc
      go_enter Tryd.func64, Tryd.ntmps64
      go_wp2_with (first | (go_at_call 97; refine (specSizeFault_calls _ _).mono ?_; rintro e w' ⟨rfl, rfl⟩) | fail)
      go_loop [6] (fun i => ∃ k : Nat, k ≤ xs.length ∧ i = .int .i64 k ∧ Hid ((xs.take k).all sampB = true)) (fun i => xs.length - (intOf i).toNat)
      case atStart => exact ⟨0, Nat.zero_le _, rfl, rfl⟩
      case round =>
        obtain ⟨k, hk, rfl, ha⟩ := hrel
        by_cases hlt : k < xs.length
        · have hcx := hcell k hlt
          have HN' : Hid (sampB (xs.getD k 0) = false → xs.all sampB = false) := fun hx => allB_no hlt hx
          have HA : Hid (sampB (xs.getD k 0) = true → (xs.take (k + 1)).all sampB = true) := fun hx => takeB_snoc hlt ha.out hx
          clear hcell
          generalize xs.getD k 0 = x at *
          cases hx : sampB x
          · have H : Hid (3 = smF s xs) := HN.out (HN'.out hx)
            unfold sampB at hx
            clear HN HA HN'
            go_wp2_with (go_at_call 99; refine (l1In_calls _ _ _ _).mono ?_; rintro e w' ⟨rfl, rfl⟩)
            go_ret
            exact ⟨ret_int H.out, Below.refl _ _⟩
          · have hA : Hid ((xs.take (k + 1)).all sampB = true) := HA.out hx
            unfold sampB at hx
            clear HN HA HN'
            go_wp2_with (go_at_call 99; refine (l1In_calls _ _ _ _).mono ?_; rintro e w' ⟨rfl, rfl⟩)
            go_round
            case rel => exact ⟨k + 1, by omega, by go_num, hA⟩
            case measure => simp [intOf]; omega
        · have he : k = xs.length := by omega
          subst he
          have H : Hid (0 = smF s xs) := HY.out (by have := ha.out; rwa [List.take_length] at this)
          clear hcell
          go_wp2
          go_ret
          exact ⟨ret_int H.out, Below.refl _ _⟩
    · have H : Hid (2 = smF s xs) := smF_many hz hl
      have hne : ((xs.length : Int) != s) = true := by rw [bne_iff_ne]; exact hl
      clear hc
      go_enter Tryd.func64, Tryd.ntmps64
      go_wp2_with (go_at_call 97; refine (specSizeFault_calls _ _).mono ?_; rintro e w' ⟨rfl, rfl⟩)
      go_ret
      exact ⟨ret_int H.out, Below.refl _ _⟩
  · have H : Hid (3 = smF s xs) := smF_size hz
    clear hc
    go_enter Tryd.func64, Tryd.ntmps64
    go_wp2_with (go_at_call 97; refine (specSizeFault_calls _ _).mono ?_; rintro e w' ⟨rfl, rfl⟩)
    go_ret
    exact ⟨ret_int H.out, Below.refl _ _⟩
end Go.Proofs.YtobmngoodjmdaaaDoor.SampF
