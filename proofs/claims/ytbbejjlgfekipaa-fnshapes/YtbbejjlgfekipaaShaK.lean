/- The program deals pulses to places: what each has first, and one each to those with the greatest rests, by the heap. Conditions: 1 to 4 coefficients, 1 to 8 pulses. -/
import Derived.Test.YtbbejjlgfekipaaShaJ
import Derived.Test.YtbbejjlgfekipaaSeaS
import Derived.Test.YtbbejjlgfekipaaNorm
namespace Go.Proofs.Ytbbejjlgfekipaa.ShaK
open Go.ChangeShapes Go.WideShapes Go.ChangeAt Go.RowKit Go.Proofs.Ytbbejjlgfekipaa.Num Go.Proofs.Ytbbejjlgfekipaa.Sli Go.Proofs.Ytbbejjlgfekipaa.App Go.Proofs.Ytbbejjlgfekipaa.Blk Go.Proofs.Ytbbejjlgfekipaa.Div Go.Proofs.Ytbbejjlgfekipaa.Norm Go.Proofs.Ytbbejjlgfekipaa.HalM Go.Proofs.Ytbbejjlgfekipaa.PulM Go.Proofs.Ytbbejjlgfekipaa.ShaM Go.Proofs.Ytbbejjlgfekipaa.SeaM Go.Proofs.Ytbbejjlgfekipaa.SeaS Go.Proofs.Ytbbejjlgfekipaa.ShaG Go.Proofs.Ytbbejjlgfekipaa.ShaH Go.Proofs.Ytbbejjlgfekipaa.ShaU Go.Proofs.Ytbbejjlgfekipaa.ShaJ Go.Proofs.Ytbbejjlgfekipaa.IntL Go.Proofs.Ytbbejjlgfekipaa.IntA Go.Proofs.Ytbbejjlgfekipaa.BkI

/-- The pulses' list, ahead of the heap, and the heap. -/
structure PQ (w : World) (gp base b g cap : Nat) (l : List Int) (R : List B2) (W : World) : Prop where
  p : Bi W gp l
  h : HP base b g cap R W
  n : gp < base
  m : w.heap.size ≤ gp
  l : Below w.heap.size w W
section
variable {w W W' : World} {gp base b g cap : Nat} {l : List Int} {R : List B2}
theorem PQ.heap {g' cap' : Nat} {R' : List B2} (h : PQ w gp base b g cap l R W) (h2 : HP base b g' cap' R' W') (hb : Below base W W') : PQ w gp base b g' cap' l R' W' :=
  ⟨Blk.below h.p hb h.n, h2, h.n, h.m, h.l.trans (hb.mono (by have := h.n; have := h.m; omega))⟩
theorem PQ.set (h : PQ w gp base b g cap l R W) (j : Nat) (x : Int) : PQ w gp base b g cap (l.set j x) R (W.setCell ⟨gp, j, none⟩ (.int .i64 x)) := by
  obtain ⟨_, hbg, _, _, _⟩ := h.h.o.at
  have hb := h.h.hb
  have hn := h.n
  exact ⟨h.p.set j x, ⟨h.h.x.other (by omega) _ _, OwR.other h.h.o (by omega) _ _, h.h.n, h.h.hb⟩, h.n, h.m, below_cell h.l h.m _ _⟩
end
theorem hp_new (w : World) : HP w.heap.size (w.heap.size + 1) w.heap.size 0 [] ((w.alloc (.cells #[] 72)).alloc (.cells #[.slice (some ⟨w.heap.size, 0, none⟩) 0 0] 67)) := by
  refine ⟨?_, ?_, by omega, by omega⟩
  · have := Blk.new (w.alloc (.cells #[] 72)) #[.slice (some ⟨w.heap.size, 0, none⟩) 0 0] 67
    rwa [World.size_alloc] at this
  · have h0 : OwR w.heap.size (w.alloc (.cells #[] 72)) (.slice (some ⟨w.heap.size, 0, none⟩) 0 0) [] := ⟨rfl, .inr ⟨w.heap.size, 0, #[], rfl, Nat.le_refl _, World.alloc_heap_new w _, Nat.le_refl _, of_decide_eq_true rfl, rfl, rfl⟩⟩
    exact h0.later (bmore (Below.refl _ _) _)
theorem fieldI1 (c a : Value) (w : World) : (Instr.field 31 (.agg #[c, a]) 1).run Try.prog w = .ok a w := by kernel_rfl
theorem fieldR0 (c a : Value) (w : World) : (Instr.field 72 (.agg #[c, a]) 0).run Try.prog w = .ok c w := by kernel_rfl
def ppF (l : List Int) (k : Int) (i : Nat) : Int := if nrm l = 0 then (if i = 0 then k else 0) else upV l k i
set_option maxRecDepth 100000 in
set_option maxHeartbeats 8000000 in
theorem perPlace_calls (v : Value) (l : List Int) (k : Int) (w : World) (h : Sl .i64 w v l) (h1 : 1 ≤ l.length) (h4 : l.length ≤ 4) (k1 : 1 ≤ k) (k8 : k ≤ 8) (hco : l.all coB = true) :
    Calls Try.prog 33 #[v, .int .i64 k] w fun e w' => e = .returned (.slice (some ⟨w.heap.size, 0, none⟩) l.length l.length) ∧ Bi w' w.heap.size (mkL l.length (ppF l k)) ∧ Below w.heap.size w w' := by
  obtain ⟨c1, c2, c3⟩ := co_norm hco h4
  have hne : l ≠ [] := by intro e; rw [e] at h1; simp at h1
  have hmk := fun W => make_i l.length (by omega) W
  have HN : Hid (∀ W, Sl .i64 W v l → Calls Try.prog 11 #[v] W fun e w' => e = .returned (.agg #[.int .i64 0, .int .i64 (nrm l)]) ∧ Below W.heap.size W w') := fun W hW => by
    obtain ⟨e1, e2⟩ := nm_yes (xs := l) (by omega) c1
    have := implNormOf_calls v l W hW
    rw [← e1, ← e2] at this
    exact this
  have HS1 := hid (h.later (bmore (Below.refl _ w) (.cells (cs (List.replicate l.length 0)) 2)))
  have hP0 : Bi (w.alloc (.cells (cs (List.replicate l.length 0)) 2)) w.heap.size (List.replicate l.length 0) := Blk.new w _ _
  have HP0 := hid hP0
  have HB0 := hid (bmore (Below.refl _ w) (.cells (cs (List.replicate l.length 0)) 2))
  obtain ⟨a, cap, rfl, hc⟩ := h
  obtain ⟨b, off, rfl, hbl, hcell⟩ := hc hne
  have hn0 := nrm_pos l
  have hf1 := fieldI1
  have hf0 := fieldR0
  have hI1 : (1 : Int) ≤ l.length := by omega
  have hI4 : (l.length : Int) ≤ 4 := by omega
  clear hc hP0
  by_cases hz : nrm l = 0
  · have HE : Hid ((List.replicate l.length (0 : Int)).set 0 k = mkL l.length (ppF l k)) := by
      show _ = _
      have e : List.replicate l.length (0 : Int) = mkL l.length (fun _ => 0) := by unfold mkL; rw [List.map_const', List.length_range]
      rw [e]
      refine set_mk (by omega) ?_ (fun j _ hj => ?_)
      · unfold ppF; rw [if_pos hz, if_pos rfl]
      · unfold ppF; rw [if_pos hz, if_neg hj]
    rw [hz] at HN
    have hmk1 := hmk w
    clear hcell c1 c2 c3 hn0 hz hmk
    go_enter Try.func33, Try.ntmps33
    go_wp2_with fail
    refine (HN.out _ HS1.out).mono ?_
    rintro e w1 ⟨rfl, hb1⟩
    have hP1 := HP0.out.later hb1
    obtain ⟨x1, x2⟩ := hP1.cell 0 (by rw [List.length_replicate]; omega)
    have HP2 := hid (hP1.set 0 k)
    rw [HE.out] at HP2
    have HB2 := hid (below_cell (bthen HB0.out hb1) (Nat.le_refl _) 0 (.int .i64 k))
    clear hP1 HN hb1 HP0 HS1 HB0 hmk1 HE
    go_wp2
    go_ret
    exact ⟨rfl, HP2.out, HB2.out⟩
  · have hp : 0 < nrm l := by omega
    have hzb : (nrm l == 0) = false := by simpa using hz
    have E0 : Hid (List.replicate l.length (0 : Int) = mkL l.length (o1 l k 0)) := by
      show _ = mkL l.length (fun j => if j < 0 then bsV l k j else 0)
      unfold mkL
      rw [show (fun j : Nat => if j < 0 then bsV l k j else (0 : Int)) = fun _ => 0 from funext (fun j => if_neg (by omega)), List.map_const', List.length_range]
    have E1 : Hid (∀ i, i < l.length → (mkL l.length (o1 l k i)).set i (bsV l k i) = mkL l.length (o1 l k (i + 1))) := fun i hi =>
      set_mk hi (by unfold o1; rw [if_pos (by omega)]) (fun j _ hj => by
        unfold o1
        by_cases q : j < i
        · rw [if_pos q, if_pos (by omega)]
        · rw [if_neg q, if_neg (by omega)])
    have HQ : Hid (∀ i, i < l.length → k * absV (l.getD i 0) - bsV l k i * nrm l = rsV l k i ∧ 0 ≤ bsV l k i ∧ bsV l k i ≤ 8 ∧ 0 ≤ k * absV (l.getD i 0) ∧ k * absV (l.getD i 0) ≤ 134217728 ∧ 0 ≤ bsV l k i * nrm l ∧ bsV l k i * nrm l ≤ 134217728) := fun i hi => by
      have x1 := c3 i hi
      have x2 := absV_bd (l.getD i 0)
      have x3 : 0 ≤ k * absV (l.getD i 0) := Int.mul_nonneg (by omega) x2.1
      have x4 : k * absV (l.getD i 0) ≤ 8 * absV (l.getD i 0) := Int.mul_le_mul_of_nonneg_right k8 x2.1
      have x5 := bs_le l k (by omega) hp hi
      obtain ⟨s1, s2, _⟩ := split_at l k i hp
      have x6 := bs_pos l k (by omega) i
      have x7 : 0 ≤ bsV l k i * nrm l := Int.mul_nonneg x6 hn0
      rw [Int.mul_comm (nrm l)] at s1
      exact ⟨by omega, x6, by omega, x3, by omega, x7, by omega⟩
    have HLf := hid (left_bd l k hp (by omega))
    have HA : Hid (∀ i, i < l.length → ∀ W, Calls Try.prog 37 #[.int .i64 (l.getD i 0)] W fun e w' => e = .returned (.int .i64 (absV (l.getD i 0))) ∧ w' = W) := fun i hi W => by
      have := c3 i hi
      exact withoutSign_calls _ W (by omega) (by omega)
    have HFl : Hid (∀ i, i < l.length → ∀ W, Calls Try.prog 47 #[.int .i64 (k * absV (l.getD i 0)), .int .i64 (nrm l)] W fun e w' => e = .returned (.int .i64 (bsV l k i)) ∧ w' = W) := fun i hi W => by
      obtain ⟨-, -, -, q4, q5, -⟩ := HQ.out i hi
      exact floor_calls _ _ W hp (by omega) (by omega)
    have HLv : Hid (∀ i, ((k - smF (bsV l k) i) - bsV l k i = k - smF (bsV l k) (i + 1))) := fun i => by
      rw [show smF (bsV l k) (i + 1) = smF (bsV l k) i + bsV l k i from rfl]; omega
    have HLb : Hid (∀ i, i ≤ l.length → k - smF (bsV l k) i ≤ 8 ∧ -40 ≤ k - smF (bsV l k) i) := fun i hi => by
      have key : ∀ m, m ≤ l.length → 0 ≤ smF (bsV l k) m ∧ smF (bsV l k) m ≤ 8 * m := by
        intro m
        induction m with
        | zero => intro _; exact ⟨Int.le_refl _, Int.le_refl _⟩
        | succ m ih =>
          intro hm
          have q1 := ih (by omega)
          have q2 := bs_le l k (by omega) hp (i := m) (by omega)
          have q3 := bs_pos l k (by omega) m
          show 0 ≤ smF (bsV l k) m + bsV l k m ∧ smF (bsV l k) m + bsV l k m ≤ _
          omega
      have := key i hi
      omega
    have HUpE : Hid (∀ t0 : Nat, lfV l k = (t0 : Int) → mkL l.length (o2 l k t0) = mkL l.length (ppF l k)) := fun t0 ht0 => mkL_congr (fun j _ => by
      unfold ppF
      rw [if_neg hz]
      show bsV l k j + (if rkN l.length (rsV l k) j < t0 then 1 else 0) = bsV l k j + (if ((rkN l.length (rsV l k) j : Nat) : Int) < lfV l k then 1 else 0)
      rw [ht0]
      by_cases q : rkN l.length (rsV l k) j < t0
      · rw [if_pos q, if_pos (by omega)]
      · rw [if_neg q, if_neg (by omega)])
    have HS := hid hcell
    have hmk1 := hmk w
    clear hcell c1 c3 hz hn0 hco hmk
    have HR0 : Hid (∀ m, rs0 (rsV l k) m ++ [((m : Int), rsV l k m)] = rs0 (rsV l k) (m + 1)) := fun m => (rs0_succ _ _).symm
    have HRl : Hid (∀ m, (rs0 (rsV l k) m).length = m) := fun m => rs0_len _ _
    generalize hTT : nrm l = T at *
    go_enter Try.func33, Try.ntmps33
    go_wp2_with fail
    refine (HN.out _ HS1.out).mono ?_
    rintro e w1 ⟨rfl, hb1⟩
    have hP1 := HP0.out.later hb1
    rw [E0.out] at hP1
    have hlt1 := hP1.lt
    have HQ0 : Hid (PQ w w.heap.size w1.heap.size (w1.heap.size + 1) w1.heap.size 0 (mkL l.length (o1 l k 0)) (rs0 (rsV l k) 0) ((w1.alloc (.cells #[] 72)).alloc (.cells #[.slice (some ⟨w1.heap.size, 0, none⟩) 0 0] 67))) :=
      ⟨hP1.later (bmore (bmore (Below.refl _ _) _) _), hp_new w1, hlt1, Nat.le_refl _, bmore (bmore (bthen HB0.out hb1) _) _⟩
    clear hP1 HN hb1 HP0 HS1 HB0 hmk1 E0
    go_wp2_with fail
    generalize w1.heap.size = base at *
    have hmP := fun W => met_push (base + 1) W
    go_loopw [7, 31] (fun lv iv wr => ∃ j g cp : Nat, j ≤ l.length ∧ lv = .int .i64 (k - smF (bsV l k) j) ∧ iv = .int .i64 (j : Int) ∧ Hid (PQ w w.heap.size base (base + 1) g cp (mkL l.length (o1 l k j)) (rs0 (rsV l k) j) wr)) (fun _ iv _ => l.length - (intOf iv).toNat)
    case atStart => exact ⟨0, _, _, Nat.zero_le _, by rw [show smF (bsV l k) 0 = 0 from rfl]; go_num, rfl, HQ0⟩
    case round =>
      obtain ⟨j, g, cp, hj, rfl, rfl, hP⟩ := hrel
      clear HQ0
      by_cases hlt : j < l.length
      · obtain ⟨q1, q2, q3, q4, q5, q6, q7⟩ := HQ.out j hlt
        have hce := (hP.out.l.cell (p := ⟨b, off + j, none⟩) hbl).trans (HS.out j hlt)
        have HAi := hid (HA.out j hlt)
        have HFi := hid (HFl.out j hlt)
        have hE := HLv.out j
        have HEl := hid hE
        have hb1 := HLb.out j (by omega)
        have hb2 := HLb.out (j + 1) (by omega)
        have hml : (mkL l.length (o1 l k j)).length = l.length := mkL_len _ _
        obtain ⟨y1, y2⟩ := hP.out.p.cell j (by rw [hml]; exact hlt)
        have hst := hP.out.set j (bsV l k j)
        rw [E1.out j hlt] at hst
        have HP2 := hid hst
        have HPu := hid (push_calls hst.h (j : Int) (k * absV (l.getD j 0) - bsV l k j * T) (by rw [HRl.out]; omega))
        have HRs := hid (HR0.out j)
        rw [← q1] at HRs
        have hiI : (j : Int) < (l.length : Int) := by omega
        obtain ⟨lv2, hl2⟩ : ∃ y, k - smF (bsV l k) (j + 1) = y := ⟨_, rfl⟩
        rw [hl2] at hb2 HEl
        have HL2 := hid hl2
        clear hst hP hml HS HA HFl HQ HLv HLb E1 HLf hE hl2 q1 HR0 HRl HUpE
        generalize l.getD j 0 = x at *
        generalize absV x = ax at *
        generalize bsV l k j = bx at *
        generalize k - smF (bsV l k) j = lv at *
        have hlv : lv - bx = lv2 := HEl.out
        have hlv1 : -48 ≤ lv - bx ∧ lv - bx ≤ 48 := by omega
        clear hlv
        go_wp2_with fail
        refine (HAi.out _).mono ?_
        rintro e w3 ⟨rfl, rfl⟩
        go_wp2_with fail
        refine (HFi.out _).mono ?_
        rintro e w3 ⟨rfl, rfl⟩
        go_wp2_with fail
        refine HPu.out.mono ?_
        rintro e w4 ⟨rfl, ⟨g4, cp4, hp4⟩, hb4⟩
        rw [HRs.out] at hp4
        have HP4 := hid (HP2.out.heap hp4 hb4)
        clear hp4 hb4 HP2 HPu HRs
        go_wp2
        go_roundw
        case rel => exact ⟨j + 1, g4, cp4, by omega, by rw [HL2.out, ← HEl.out], by go_num, HP4⟩
        case measure => simp [intOf]; omega
      · obtain rfl : j = l.length := by omega
        obtain ⟨t0, ht0⟩ := Int.eq_ofNat_of_zero_le HLf.out.1
        have hlfn : t0 < l.length := by have := HLf.out.2; omega
        have hlv : k - smF (bsV l k) l.length = (t0 : Int) := ht0
        rw [hlv]
        have HUe := hid (HUpE.out t0 ht0)
        have hIn := init_calls hP.out.h (by rw [HRl.out]; omega)
        rw [HRl.out] at hIn
        have HIn := hid hIn
        have HP1 : Hid (PQ w w.heap.size base (base + 1) g cp (mkL l.length (o2 l k 0)) (rs0 (rsV l k) l.length) wr) := by
          have e1 : mkL l.length (o1 l k l.length) = mkL l.length (o2 l k 0) := mkL_congr (fun j hj => by unfold o1 o2; rw [if_pos hj, if_neg (by omega), Int.add_zero])
          have := hP.out
          rw [e1] at this
          exact this
        have HJ0 := hid (jj_new (rsV l k) l.length)
        have ht4 : (t0 : Int) ≤ 4 := by omega
        clear hIn hP hlv HLv HLb E1 HLf ht0 HS HA HFl HR0 HRl HUpE hmP
        generalize hin l.length (l.length / 2) (rs0 (rsV l k) l.length) = RI at *
        go_wp2_with fail
        refine HIn.out.mono ?_
        rintro e w4 ⟨rfl, hp4, hb4⟩
        have HP4 := hid (HP1.out.heap hp4 hb4)
        clear hp4 hb4 HP1 HIn
        go_wp2_with fail
        go_loopw [64] (fun iv wq => ∃ (t g2 c2 : Nat) (R : List B2), t ≤ t0 ∧ iv = .int .i64 (t : Int) ∧ Hid (JJ (rsV l k) l.length t R) ∧ Hid (PQ w w.heap.size base (base + 1) g2 c2 (mkL l.length (o2 l k t)) R wq)) (fun iv _ => t0 - (intOf iv).toNat)
        case atStart => exact ⟨0, _, _, _, Nat.zero_le _, rfl, HJ0, HP4⟩
        case round =>
          obtain ⟨t, g2, c2', R, ht, rfl, hJ, hP⟩ := hrel
          clear HP4 HJ0
          by_cases htt : t < t0
          · obtain ⟨bp, hb2, eb, hrk, hJ2⟩ := jj_pop hJ.out (by omega)
            have HJ2 := hid hJ2
            have hRn := hJ.out.n
            have hpo := pop_calls hP.out.h hJ.out.h (by omega) (by omega)
            rw [eb] at hpo
            dsimp only at hpo
            have HPo := hid hpo
            have hta : ∀ (ty : TypeId) (w : World), (Instr.typeAssert (.iface 72 (.agg #[.int .i64 (bp : Int), .int .i64 (rsV l k bp)])) ty 72 false).run Try.prog w = .ok (.agg #[.int .i64 (bp : Int), .int .i64 (rsV l k bp)]) w := fun _ _ => by kernel_rfl
            have hoset : (mkL l.length (o2 l k t)).set bp (o2 l k t bp + 1) = mkL l.length (o2 l k (t + 1)) := set_mk hb2 (by unfold o2; rw [if_pos (by omega), if_neg (by omega)]; omega) (fun j hj hne => by
              have : rkN l.length (rsV l k) j ≠ t := fun e => hne (rk_inj (n := l.length) (r := rsV l k) hj hb2 (by omega))
              unfold o2
              by_cases q : rkN l.length (rsV l k) j < t
              · rw [if_pos q, if_pos (by omega)]
              · rw [if_neg q, if_neg (by omega)])
            have HOs := hid hoset
            have hob : 0 ≤ o2 l k t bp ∧ o2 l k t bp ≤ 9 := by
              obtain ⟨-, q2, q3, -⟩ := HQ.out bp hb2
              unfold o2; split <;> omega
            have hml := mkL_get (o2 l k t) hb2
            have HMl := hid hml
            have hbpI : (bp : Int) < (l.length : Int) := by omega
            have httI : (t : Int) < (t0 : Int) := by omega
            clear hJ hJ2 eb hrk hpo hoset hml HQ hRn
            generalize rsV l k bp = rb at *
            go_wp2_with fail
            refine HPo.out.mono ?_
            rintro e w5 ⟨rfl, hp5, hb5⟩
            have hP5 := hP.out.heap hp5 hb5
            obtain ⟨y1, y2⟩ := hP5.p.cell bp (by rw [mkL_len]; exact hb2)
            rw [HMl.out] at y1
            have HP6 := hid (hP5.set bp (o2 l k t bp + 1))
            rw [HOs.out] at HP6
            clear hP5 hp5 hb5 hP HPo HOs HMl
            generalize o2 l k t bp = ov at *
            go_wp2
            go_roundw
            case rel => exact ⟨t + 1, g2, c2', _, by omega, by go_num, HJ2, HP6⟩
            case measure => simp [intOf]; omega
          · obtain rfl : t = t0 := by omega
            have HB := hid hP.out.l
            have HPp := hid hP.out.p
            rw [HUe.out] at HPp
            clear hP hJ HQ HUe
            go_wp2
            go_ret
            exact ⟨rfl, HPp.out, HB.out⟩
end Go.Proofs.Ytbbejjlgfekipaa.ShaK
