/- What is fed and what is played stays right, and a frame that was fed comes back two frames later to the last bit. No program is spoken of. -/
import Derived.Test.YtodfkicmmcfkaaaLapM
namespace Go.Proofs.Ytodfkicmmcfkaaa.LapN
open Go.ChangeShapes Go.WideShapes Go.ChangeAt Go.RowKit Go.Proofs.Ytodfkicmmcfkaaa.Num Go.Proofs.Ytodfkicmmcfkaaa.Samp Go.Proofs.Ytodfkicmmcfkaaa.SampF Go.Proofs.Ytodfkicmmcfkaaa.TurM Go.Proofs.Ytodfkicmmcfkaaa.HalM Go.Proofs.Ytodfkicmmcfkaaa.LapM

theorem lf_ok {s : Int} {half rest : List Int} (h : lfC s half rest = 0) : szF s = 0 ∧ half.length = hN s ∧ rest.length = hN s ∧ lim 65536 half ∧ smL rest := by
  unfold lfC at h
  split at h
  · rename_i h0
    split at h
    · rename_i h1
      split at h
      · rename_i h2; exact ⟨h0, h1.1, h1.2, lim_bl.1 h2.1, smL_all.1 h2.2⟩
      · cases h
    · cases h
  · cases h
theorem lf_yes {s : Int} {half rest : List Int} (h0 : szF s = 0) (h1 : half.length = hN s) (h2 : rest.length = hN s) (h3 : lim 65536 half) (h4 : smL rest) : lfC s half rest = 0 := by
  unfold lfC; rw [if_pos h0, if_pos ⟨h1, h2⟩, if_pos ⟨lim_bl.2 h3, smL_all.2 h4⟩]
theorem sy_ok {s : Int} {head tail : List Int} (h : syC s head tail = 0) : szF s = 0 ∧ head.length = hN s ∧ tail.length = hN s ∧ lim 1073741824 head ∧ lim 268435456 tail := by
  unfold syC at h
  split at h
  · rename_i h0
    split at h
    · rename_i h1
      split at h
      · rename_i h2; exact ⟨h0, h1.1, h1.2, lim_hd.1 h2.1, lim_tl.1 h2.2⟩
      · cases h
    · cases h
  · cases h
theorem sy_yes {s : Int} {head tail : List Int} (h0 : szF s = 0) (h1 : head.length = hN s) (h2 : tail.length = hN s) (h3 : lim 1073741824 head) (h4 : lim 268435456 tail) : syC s head tail = 0 := by
  unfold syC; rw [if_pos h0, if_pos ⟨h1, h2⟩, if_pos ⟨lim_hd.2 h3, lim_tl.2 h4⟩]
theorem sm_ok {s : Int} {fr : List Int} (h : smF s fr = 0) : szF s = 0 ∧ (fr.length : Int) = s ∧ smL fr := by
  unfold smF at h
  split at h
  · rename_i h0
    split at h
    · rename_i h1
      split at h
      · rename_i h2; exact ⟨h0, h1, smL_all.1 h2⟩
      · cases h
    · cases h
  · cases h
theorem sm_yes {s : Int} {fr : List Int} (h0 : szF s = 0) (h1 : (fr.length : Int) = s) (h2 : smL fr) : smF s fr = 0 := by
  unfold smF; rw [if_pos h0, if_pos h1, if_pos (smL_all.2 h2)]
theorem lf_ne {s : Int} {half rest : List Int} : lfC s half rest = 0 ∨ lfC s half rest = 2 ∨ lfC s half rest = 3 := by
  unfold lfC; repeat' split
  all_goals simp
theorem sy_ne {s : Int} {head tail : List Int} : syC s head tail = 0 ∨ syC s head tail = 2 ∨ syC s head tail = 3 := by
  unfold syC; repeat' split
  all_goals simp
theorem fd_ok {s : Int} {half rest fr : List Int} (h : fdC s half rest fr = 0) : lfC s half rest = 0 ∧ smF s fr = 0 := by
  unfold fdC at h
  split at h
  · rename_i h0; exact ⟨h0, h⟩
  · rename_i h0; exact absurd h h0
theorem pl_ok {s : Int} {head tail co : List Int} (h : plC s head tail co = 0) : syC s head tail = 0 ∧ (co.length : Int) = s ∧ gbC co = 0 := by
  unfold plC at h
  split at h
  · rename_i h0
    split at h
    · rename_i h1; exact ⟨h0, h1, h⟩
    · cases h
  · rename_i h0; exact absurd h h0
theorem lim_smA {F : Nat → Int → Int → Int × Int} {h : Nat} {l f : List Int} {M N : Int} (hN : 0 ≤ N) (hl : lim M l) (hf : lim M f)
    (hF : ∀ i a b, i < h → (-M ≤ a ∧ a ≤ M) → (-M ≤ b ∧ b ≤ M) → (-N ≤ (F i a b).1 ∧ (F i a b).1 ≤ N)) : lim N (smA F h l f) :=
  lim_mkL hN (fun _ _ => hF _ _ _ (by omega) (hl _) (hf _))
theorem lim_smB {F : Nat → Int → Int → Int × Int} {h : Nat} {l f : List Int} {M N : Int} (hN : 0 ≤ N) (hl : lim M l) (hf : lim M f)
    (hF : ∀ i a b, i < h → (-M ≤ a ∧ a ≤ M) → (-M ≤ b ∧ b ≤ M) → (-N ≤ (F i a b).2 ∧ (F i a b).2 ≤ N)) : lim N (smB F h l f) :=
  lim_mkL hN (fun _ hi => hF _ _ _ hi (hl _) (hf _))
/-- Both sides of a seam between samples. -/
theorem seam_lim {s : Int} (h0 : szF s = 0) {l f : List Int} (hl : smL l) (hf : smL f) : lim 65536 (smA (ahF s.toNat) (hN s) l f) ∧ lim 65536 (smB (ahF s.toNat) (hN s) l f) :=
  ⟨lim_smA (by omega) hl.lim hf.lim (fun _ _ _ hi ha hb => (ah_smp (turn_at h0 hi) ha hb).1), lim_smB (by omega) hl.lim hf.lim (fun _ _ _ hi ha hb => (ah_smp (turn_at h0 hi) ha hb).2)⟩
theorem dep_of {s : Int} (h0 : szF s = 0) : s.toNat = 2 ^ dep s.toNat ∧ dep s.toNat ≤ 4 := dep_pow (is3_sz (sz_nat h0).1)
/-- The block that is spread. -/
theorem block_ok {s : Int} {half rest fr : List Int} (h : fdC s half rest fr = 0) : (half ++ fdT s rest fr).length = 2 ^ dep s.toNat ∧ lim 65536 (half ++ fdT s rest fr) := by
  obtain ⟨h1, h2⟩ := fd_ok h
  obtain ⟨h0, l1, l2, b1, b2⟩ := lf_ok h1
  obtain ⟨_, l3, b3⟩ := sm_ok h2
  obtain ⟨_, e1, e2, _⟩ := sz_nat h0
  have ht : (fdT s rest fr).length = hN s := smA_len _ _ _ _
  refine ⟨?_, lim_app b1 (seam_lim h0 b2 (smL_take b3 _)).1⟩
  rw [List.length_append, l1, ht, ← (dep_of h0).1]; omega
/-- What is fed leaves a right lap, and coefficients of its size. -/
theorem fed_right {s : Int} {half rest fr : List Int} (h : fdC s half rest fr = 0) : lfC s (fdH s rest fr) (fr.drop (hN s)) = 0 ∧ (fdK s half rest fr).length = s.toNat ∧ lim 8388608 (fdK s half rest fr) := by
  obtain ⟨h1, h2⟩ := fd_ok h
  obtain ⟨h0, l1, l2, b1, b2⟩ := lf_ok h1
  obtain ⟨_, l3, b3⟩ := sm_ok h2
  obtain ⟨_, e1, e2, _⟩ := sz_nat h0
  obtain ⟨k1, k2⟩ := block_ok h
  refine ⟨lf_yes h0 (smB_len _ _ _ _) (by rw [List.length_drop]; omega) (seam_lim h0 b2 (smL_take b3 _)).2 (smL_drop b3 _), ?_, sp_coef (dep_of h0).2 k1 k2⟩
  unfold fdK; rw [sp_len _ _ k1]; exact (dep_of h0).1.symm
/-- What is gathered of coefficients of a right size. -/
theorem gath_ok {s : Int} {co : List Int} (h0 : szF s = 0) (hl : (co.length : Int) = s) (hg : gbC co = 0) : co.length = 2 ^ dep s.toNat ∧ (plB s co).length = s.toNat ∧ lim 268435456 (plB s co) := by
  obtain ⟨d1, d2⟩ := dep_of h0
  have hc : co.length = 2 ^ dep s.toNat := by rw [← d1]; omega
  refine ⟨hc, ?_, ?_⟩
  · unfold plB; rw [ga_len _ _ hc]; exact d1.symm
  · refine (lim_ga2 (dep s.toNat) d2 (by omega) hc (gb_ok hg).2).mono ?_
    generalize dep s.toNat = k at d2
    rcases k with _ | _ | _ | _ | _ | k <;> first | decide | omega
theorem back_lim {s : Int} (h0 : szF s = 0) {l f : List Int} (hl : lim 268435456 l) (hf : lim 268435456 f) : lim 1073741824 (smA (bkF s.toNat) (hN s) l f) ∧ lim 1073741824 (smB (bkF s.toNat) (hN s) l f) :=
  ⟨lim_smA (by omega) hl hf (fun _ _ _ hi ha hb => by have := (bk_far (pu_bd (turn_at h0 hi)) (by omega) ha hb).1; show _ ≤ bkA _ _ _ _ ∧ bkA _ _ _ _ ≤ _; omega), lim_smB (by omega) hl hf (fun _ _ _ hi ha hb => by have := (bk_far (pu_bd (turn_at h0 hi)) (by omega) ha hb).2; show _ ≤ bkB _ _ _ _ ∧ bkB _ _ _ _ ≤ _; omega)⟩
/-- What is played leaves a right synth, and a frame of its size. -/
theorem played_right {s : Int} {head tail co : List Int} (h : plC s head tail co = 0) : syC s (plH s tail co) ((plB s co).drop (hN s)) = 0 ∧ (head ++ plT s tail co).length = s.toNat := by
  obtain ⟨h1, hl, hg⟩ := pl_ok h
  obtain ⟨h0, l1, l2, b1, b2⟩ := sy_ok h1
  obtain ⟨_, e1, e2, _⟩ := sz_nat h0
  obtain ⟨c1, c2, c3⟩ := gath_ok h0 hl hg
  refine ⟨sy_yes h0 (smB_len _ _ _ _) (by rw [List.length_drop, c2]; omega) (back_lim h0 b2 (lim_take c3 _)).2 (lim_drop c3 _), ?_⟩
  rw [List.length_append, l1, show (plT s tail co).length = hN s from smA_len _ _ _ _]; omega

/-- A lap and a synth that were fed f0 and f1 last, and played so far. -/
structure LI (s : Int) (f0 f1 half rest head tail : List Int) : Prop where
  z : szF s = 0
  n0 : (f0.length : Int) = s
  n1 : (f1.length : Int) = s
  s0 : smL f0
  s1 : smL f1
  half : half = smB (ahF s.toNat) (hN s) (f0.drop (hN s)) (f1.take (hN s))
  tail : tail = smA (ahF s.toNat) (hN s) (f0.drop (hN s)) (f1.take (hN s))
  rest : rest = f1.drop (hN s)
  head : head = f0.take (hN s)
theorem smL_zero (n : Nat) : smL (List.replicate n 0) := fun i => by
  by_cases h : i < n
  · simp [List.getD_eq_getElem?_getD, h]
  · simp [List.getD_eq_getElem?_getD, h]
theorem zero_get (n i : Nat) : (List.replicate n (0 : Int)).getD i 0 = 0 := by
  by_cases h : i < n
  · simp [List.getD_eq_getElem?_getD, h]
  · simp [List.getD_eq_getElem?_getD, h]
theorem ah_zero (n i : Nat) : ahF n i 0 0 = (0, 0) := by
  unfold ahF ahA ahB
  simp [tenV]
theorem LI.new {s : Int} (h0 : szF s = 0) : LI s (List.replicate s.toNat 0) (List.replicate s.toNat 0) (List.replicate (hN s) 0) (List.replicate (hN s) 0) (List.replicate (hN s) 0) (List.replicate (hN s) 0) := by
  obtain ⟨_, e1, e2, _⟩ := sz_nat h0
  refine ⟨h0, by rw [List.length_replicate]; exact e1, by rw [List.length_replicate]; exact e1, smL_zero _, smL_zero _, ?_, ?_, ?_, ?_⟩
  · apply ext_g (by rw [smB_len, List.length_replicate])
    intro i hi
    rw [List.length_replicate] at hi
    rw [zero_get, show (smB (ahF s.toNat) (hN s) (List.drop (hN s) (List.replicate s.toNat 0)) (List.take (hN s) (List.replicate s.toNat 0))).getD i 0 = _ from mkL_get _ hi, drop_get, take_get, zero_get, zero_get]
    rw [if_pos hi, ah_zero]
  · apply ext_g (by rw [smA_len, List.length_replicate])
    intro i hi
    rw [List.length_replicate] at hi
    rw [zero_get, show (smA (ahF s.toNat) (hN s) (List.drop (hN s) (List.replicate s.toNat 0)) (List.take (hN s) (List.replicate s.toNat 0))).getD i 0 = _ from mkL_get _ hi, drop_get, take_get, zero_get, zero_get]
    rw [if_pos (by omega), ah_zero]
  · rw [List.drop_replicate, show s.toNat - hN s = hN s by omega]
  · rw [List.take_replicate, show min (hN s) s.toNat = hN s by omega]
theorem LI.faults {s : Int} {f0 f1 half rest head tail : List Int} (h : LI s f0 f1 half rest head tail) : lfC s half rest = 0 ∧ syC s head tail = 0 := by
  obtain ⟨_, e1, e2, _⟩ := sz_nat h.z
  have hd := seam_lim h.z (smL_drop h.s0 (hN s)) (smL_take h.s1 (hN s))
  have n0 := h.n0
  have n1 := h.n1
  constructor
  · refine lf_yes h.z ?_ ?_ ?_ ?_
    · rw [h.half]; exact smB_len _ _ _ _
    · rw [h.rest, List.length_drop]; omega
    · rw [h.half]; exact hd.2
    · rw [h.rest]; exact smL_drop h.s1 _
  · refine sy_yes h.z ?_ ?_ ?_ ?_
    · rw [h.head, List.length_take]; omega
    · rw [h.tail]; exact smA_len _ _ _ _
    · rw [h.head]; exact (smL_take h.s0 _).lim.mono (by omega)
    · rw [h.tail]; exact hd.1.mono (by omega)
/-- One step: the frame f2 is fed, its block is played, and f0 is told. -/
theorem LI.step {s : Int} {f0 f1 f2 half rest head tail : List Int} (h : LI s f0 f1 half rest head tail) (n2 : (f2.length : Int) = s) (s2 : smL f2) :
    fdC s half rest f2 = 0 ∧ plC s head tail (fdK s half rest f2) = 0 ∧ head ++ plT s tail (fdK s half rest f2) = f0 ∧
    LI s f1 f2 (fdH s rest f2) (f2.drop (hN s)) (plH s tail (fdK s half rest f2)) ((plB s (fdK s half rest f2)).drop (hN s)) := by
  obtain ⟨hl, hy⟩ := h.faults
  obtain ⟨h3, e1, e2, _⟩ := sz_nat h.z
  have hf : fdC s half rest f2 = 0 := by unfold fdC; rw [if_pos hl]; exact sm_yes h.z n2 s2
  obtain ⟨r1, r2, r3⟩ := fed_right hf
  obtain ⟨k1, k2⟩ := block_ok hf
  obtain ⟨d1, d2⟩ := dep_of h.z
  have n0 := h.n0
  have n1 := h.n1
  have hg : gbC (fdK s half rest f2) = 0 := by
    unfold gbC
    rw [r2, if_pos h3, if_pos (show (fdK s half rest f2).all coB = true from (lim_all (M := 16777216) (by omega)).2 (r3.mono (by omega)))]
  have hp : plC s head tail (fdK s half rest f2) = 0 := by unfold plC; rw [if_pos hy, if_pos (by rw [r2]; exact e1)]; exact hg
  have hB : plB s (fdK s half rest f2) = half ++ fdT s rest f2 := ga_sp _ _ d2 k1
  have hlh : half.length = hN s := (lf_ok hl).2.1
  have hB1 : (plB s (fdK s half rest f2)).take (hN s) = half := by rw [hB, ← hlh, List.take_left]
  have hB2 : (plB s (fdK s half rest f2)).drop (hN s) = fdT s rest f2 := by rw [hB, ← hlh, List.drop_left]
  have i1 : (f0.drop (hN s)).length = hN s := by rw [List.length_drop]; omega
  have i2 : (f1.take (hN s)).length = hN s := by rw [List.length_take]; omega
  obtain ⟨v1, v2⟩ := sm_inv (bkF_ahF s.toNat) i1 i2
  rw [← h.tail, ← h.half] at v1 v2
  have hT : plT s tail (fdK s half rest f2) = f0.drop (hN s) := by unfold plT; rw [hB1]; exact v1
  have hH : plH s tail (fdK s half rest f2) = f1.take (hN s) := by unfold plH; rw [hB1]; exact v2
  refine ⟨hf, hp, by rw [hT, h.head, List.take_append_drop], h.z, n1, n2, h.s1, s2, ?_, ?_, rfl, hH⟩
  · unfold fdH; rw [h.rest]
  · rw [hB2]; unfold fdT; rw [h.rest]
end Go.Proofs.Ytodfkicmmcfkaaa.LapN
