/- The model's search for pulses. Conditions: right targets and numbers of pulses for what is called; lists of at most 1048576 numbers for what is exported. -/
import Derived.Test.YtbbejjlgfekipaaSeaM
import Derived.Test.YtbbejjlgfekipaaShaS
import Derived.Test.YtbbejjlgfekipaaSamp
import Derived.BigQuiet
namespace Go.Proofs.Ytbbejjlgfekipaa.SeaS
open Go.ChangeShapes Go.WideShapes Go.ChangeAt Go.RowKit Go.Proofs.Ytbbejjlgfekipaa.Num Go.Proofs.Ytbbejjlgfekipaa.Div Go.Proofs.Ytbbejjlgfekipaa.Sli Go.Proofs.Ytbbejjlgfekipaa.App Go.Proofs.Ytbbejjlgfekipaa.Blk Go.Proofs.Ytbbejjlgfekipaa.IntL Go.Proofs.Ytbbejjlgfekipaa.IntA Go.Proofs.Ytbbejjlgfekipaa.Norm Go.Proofs.Ytbbejjlgfekipaa.HalM Go.Proofs.Ytbbejjlgfekipaa.PulM Go.Proofs.Ytbbejjlgfekipaa.PulT Go.Proofs.Ytbbejjlgfekipaa.ShaM Go.Proofs.Ytbbejjlgfekipaa.SeaM Go.Proofs.Ytbbejjlgfekipaa.ShaS

theorem set_mk {n : Nat} {f g : Nat → Int} {i : Nat} {x : Int} (_ : i < n) (hx : g i = x) (h : ∀ j, j < n → j ≠ i → g j = f j) : (mkL n f).set i x = mkL n g := by
  apply ext_g (by rw [List.length_set, mkL_len, mkL_len])
  intro j hj
  rw [List.length_set, mkL_len] at hj
  rw [getD_set _ _ _ _ (by rw [mkL_len]; exact hj), mkL_get _ hj]
  by_cases e : i = j
  · subst e; rw [if_pos rfl, mkL_get _ hj, hx]
  · rw [if_neg e, mkL_get _ hj, h j hj (fun q => e q.symm)]
def o1 (l : List Int) (k : Int) (i j : Nat) : Int := if j < i then bsV l k j else 0
def o2 (l : List Int) (k : Int) (t j : Nat) : Int := bsV l k j + if rkN l.length (rsV l k) j < t then 1 else 0
def o4 (l : List Int) (k : Int) (i j : Nat) : Int := if j < i then sgV (l.getD j 0) (upV l k j) else upV l k j
def dnB (l : List Int) (k : Int) (t j : Nat) : Bool := decide (rkN l.length (rsV l k) j < t)
/-- A block of bools. -/
def bb (n : Nat) (P : Nat → Bool) : Array Value := ((List.range n).map (fun j => Value.bool (P j))).toArray
theorem bb_get {n : Nat} {P : Nat → Bool} {i : Nat} (h : i < n) : (bb n P)[i]? = some (.bool (P i)) := by simp [bb, h]
theorem bb_set {n : Nat} {P Q : Nat → Bool} {i : Nat} (_ : i < n) (hx : Q i = true) (h : ∀ j, j < n → j ≠ i → Q j = P j) : (bb n P).setIfInBounds i (.bool true) = bb n Q := by
  apply Array.toList_inj.1
  apply List.ext_getElem
  · simp [bb]
  · intro j h1 h2
    have hjn : j < n := by simpa [bb] using h2
    by_cases e : i = j
    · subst e; simp [bb, hx]
    · have := h j hjn (fun q => e q.symm)
      simp [bb, e, this]
theorem infoB : (Try.prog.info? 4).map (fun i => (i.zero, i.size, i.bytes)) = some (some (.bool false), 1, 1) := by kernel_rfl
theorem made_bb (n : Nat) : madeCells #[Value.bool false] n = bb n (fun _ => false) := by
  apply Array.toList_inj.1
  rw [toList_madeCells_one]
  apply List.ext_getElem
  · simp [bb]
  · intro j h1 h2; simp [bb]
theorem make_b (m : Nat) (hm : m ≤ 1048576) (W : World) : (Instr.makeSlice 78 (.int .i64 (m : Int)) (.int .i64 (m : Int))).run Try.prog W = .ok (.slice (some ⟨W.heap.size, 0, none⟩) m m) (W.alloc (.cells (bb m (fun _ => false)) 4)) := by
  obtain ⟨i0, hi, hz0, hz1, hz2⟩ := info_parts infoB
  have := run_make (P := Try.prog) W 78 4 i0 (.bool false) Try.underlying78 hi hz0 .i64 .i64 (m : Int) (m : Int) (by omega) (by omega) (by rw [hz2]; omega) (by omega)
  rw [hz1, Nat.mul_one, Int.toNat_natCast, show (Value.bool false).cells = #[Value.bool false] from rfl, made_bb] at this
  exact this
/-- The pulses, and which places have had theirs. -/
structure SD (w : World) (n G D : Nat) (f : Nat → Int) (P : Nat → Bool) (W : World) : Prop where
  o : OwI w.heap.size W (.slice (some ⟨G, 0, none⟩) n n) (mkL n f)
  d : Blk W D (bb n P) 4
  ne : G ≠ D
  hd : w.heap.size ≤ D
  b : Below w.heap.size w W
theorem SD.later {w W W' : World} {n G D : Nat} {f : Nat → Int} {P : Nat → Bool} (h : SD w n G D f P W) (hb : Below W.heap.size W W') : SD w n G D f P W' := ⟨h.o.later hb, h.d.later hb, h.ne, h.hd, bthen h.b hb⟩
theorem SD.setO {w W : World} {n G D : Nat} {f g : Nat → Int} {P : Nat → Bool} (h : SD w n G D f P W) {i : Nat} {x : Int} (he : (mkL n f).set i x = mkL n g) : SD w n G D g P (W.setCell ⟨G, i, none⟩ (.int .i64 x)) := by
  obtain ⟨o1, o2⟩ := h.o.set (mkL_len _ _).symm i x
  have hg := h.o.block G rfl
  rw [he] at o1
  exact ⟨o1, h.d.kept o2 (by have := h.ne; simpa using this), h.ne, h.hd, h.b.trans (below_of_grown o2 h.b.size (fun j e => by cases e; exact hg.1))⟩
theorem SD.setD {w W : World} {n G D : Nat} {f : Nat → Int} {P Q : Nat → Bool} (h : SD w n G D f P W) {i : Nat} (he : (bb n P).setIfInBounds i (.bool true) = bb n Q) : SD w n G D f Q (W.setCell ⟨D, i, none⟩ (.bool true)) := by
  have h1 := Blk.set h.d i (.bool true)
  rw [he] at h1
  have h2 := grown_set W D i (.bool true)
  refine ⟨Ow.keptNe h.o h2 (fun j e => by cases e; have := h.ne; simp [Value.ownBlock]; omega), h1, h.ne, h.hd, h.b.trans (below_of_grown h2 h.b.size (fun j e => by cases e; exact h.hd))⟩
theorem bs_le (l : List Int) (k : Int) (hk : 0 ≤ k) (hT : 0 < nrm l) {i : Nat} (hi : i < l.length) : bsV l k i ≤ k := by
  have h1 := smF_ge (f := fun j => absV (l.getD j 0)) (fun j => (absV_bd _).1) hi
  rw [nrm_sum] at h1
  have h2 : k * absV (l.getD i 0) ≤ k * nrm l := Int.mul_le_mul_of_nonneg_left h1 hk
  unfold bsV
  refine Int.le_of_lt_add_one (Int.ediv_lt_of_lt_mul hT ?_)
  rw [Int.add_mul, Int.one_mul]
  omega
theorem co_norm {l : List Int} (h : l.all coB = true) (hl : l.length ≤ 4) : l.all topB = true ∧ nrm l ≤ 67108864 ∧ ∀ i, i < l.length → -16777216 ≤ l.getD i 0 ∧ l.getD i 0 ≤ 16777216 := by
  have hx : ∀ i, i < l.length → -16777216 ≤ l.getD i 0 ∧ l.getD i 0 ≤ 16777216 := by
    intro i hi
    rw [List.all_eq_true] at h
    exact of_inB (h (l.getD i 0) (by rw [List.getD_eq_getElem?_getD, List.getElem?_eq_getElem hi]; exact List.getElem_mem hi))
  refine ⟨?_, ?_, hx⟩
  · rw [List.all_eq_true] at h ⊢
    intro x hx
    have := of_inB (h x hx)
    exact inB_yes (by omega) (by omega)
  · have key : ∀ m, m ≤ l.length → smF (fun i => absV (l.getD i 0)) m ≤ 16777216 * m := by
      intro m
      induction m with
      | zero => intro _; exact Int.le_refl _
      | succ m ih =>
        intro hm
        have h1 := ih (by omega)
        have h2 := hx m (by omega)
        have h3 := absV_bd (l.getD m 0)
        show smF (fun i => absV (l.getD i 0)) m + absV (l.getD m 0) ≤ _
        omega
    have := key l.length (Nat.le_refl _)
    rw [nrm_sum] at this
    omega
set_option maxRecDepth 100000 in
set_option maxHeartbeats 8000000 in
theorem l12Search_calls (v : Value) (l : List Int) (k : Int) (w : World) (h : Sl .i64 w v l) (h1 : 1 ≤ l.length) (h4 : l.length ≤ 4) (k1 : 1 ≤ k) (k8 : k ≤ 8) (hco : l.all coB = true) :
    Calls Try.prog 36 #[v, .int .i64 k] w fun e w' => ∃ u, e = .returned u ∧ OwI w.heap.size w' u (mkL l.length (srE l k)) ∧ Below w.heap.size w w' := by
  have Hs := hid h
  obtain ⟨a, cap, rfl, hc⟩ := h
  obtain ⟨c1, c2, c3⟩ := co_norm hco h4
  have hne : l ≠ [] := by intro e; rw [e] at h1; simp at h1
  obtain ⟨b, off, rfl, hbl, hcell⟩ := hc hne
  have HN := hid (l1Norm_some b off cap l w (by omega) c1 hcell)
  have HZ := hid (zeros_calls l.length)
  have hn0 := nrm_pos l
  have hT : sumAbs l = nrm l := rfl
  rw [hT] at HN
  have hI1 : (1 : Int) ≤ l.length := by omega
  have hI4 : (l.length : Int) ≤ 4 := by omega
  clear hc hT
  by_cases hz : nrm l = 0
  · have HE : Hid ((List.replicate l.length (0 : Int)).set 0 k = mkL l.length (srE l k)) := by
      show _ = _
      have e : List.replicate l.length (0 : Int) = mkL l.length (fun _ => 0) := by unfold mkL; rw [List.map_const', List.length_range]
      rw [e]
      refine set_mk (by omega) ?_ (fun j _ hj => ?_)
      · unfold srE; rw [if_pos hz, if_pos rfl]
      · unfold srE; rw [if_pos hz, if_neg hj]
    rw [hz] at HN
    clear hcell Hs c1 c2 c3 hn0 hz
    go_enter Try.func36, Try.ntmps36
    go_wp2_with fail
    refine HN.out.mono ?_
    rintro e w1 ⟨rfl, hw⟩
    have hw' := hw.symm
    subst hw'
    clear hw
    go_wp2_with fail
    refine (HZ.out _ (by omega)).mono ?_
    rintro e w2 ⟨rfl, hO, hB⟩
    obtain ⟨x1, x2⟩ := hO.cellAt (List.length_replicate ..).symm 0 (by rw [List.length_replicate]; omega)
    have hst := hO.set (List.length_replicate ..).symm 0 k
    have HO := hid hst.1
    have HB := hid (hB.trans (below_of_grown hst.2 hB.size (fun j e => by cases e; exact Nat.le_refl _)))
    clear hst hO hB HZ
    go_wp2
    go_ret
    exact ⟨_, rfl, by rw [← HE.out]; exact HO.out, HB.out⟩
  · have hp : 0 < nrm l := by omega
    have hzb : (nrm l == 0) = false := by simpa using hz
    have E0 : Hid (List.replicate l.length (0 : Int) = mkL l.length (o1 l k 0)) := by
      show _ = mkL l.length (fun j => if j < 0 then bsV l k j else 0)
      unfold mkL
      rw [show (fun j : Nat => if j < 0 then bsV l k j else (0 : Int)) = fun _ => 0 from funext (fun j => if_neg (by omega)), List.map_const', List.length_range]
    have E1 : Hid (∀ i, i < l.length → (mkL l.length (o1 l k i)).set i (bsV l k i) = mkL l.length (o1 l k (i + 1))) := fun i hi =>
      set_mk hi (by unfold o1; rw [if_pos (by omega)]) (fun j _ hj => by
        unfold o1
        by_cases q : j < i
        · rw [if_pos q, if_pos (by omega)]
        · rw [if_neg q, if_neg (by omega)])
    have HQ : Hid (∀ i, i < l.length → (k * absV (l.getD i 0)).tdiv (nrm l) = bsV l k i ∧ 0 ≤ bsV l k i ∧ bsV l k i ≤ 8 ∧ 0 ≤ k * absV (l.getD i 0) ∧ k * absV (l.getD i 0) ≤ 134217728 ∧ (k * absV (l.getD i 0)).tmod (nrm l) = rsV l k i) := fun i hi => by
      have x1 := c3 i hi
      have x2 := absV_bd (l.getD i 0)
      have x3 : 0 ≤ k * absV (l.getD i 0) := Int.mul_nonneg (by omega) x2.1
      have x4 : k * absV (l.getD i 0) ≤ 8 * absV (l.getD i 0) := Int.mul_le_mul_of_nonneg_right k8 x2.1
      have x5 := bs_le l k (by omega) hp hi
      exact ⟨Int.tdiv_eq_ediv_of_nonneg x3, bs_pos l k (by omega) i, by omega, x3, by omega, Int.tmod_eq_emod_of_nonneg x3⟩
    have HLf := hid (left_bd l k hp (by omega))
    have HA : Hid (∀ i, i < l.length → ∀ W, Calls Try.prog 52 #[.int .i64 (l.getD i 0)] W fun e w' => e = .returned (.int .i64 (absV (l.getD i 0))) ∧ w' = W) := fun i hi W => by
      have := c3 i hi
      exact l1Abs_calls _ W (by omega) (by omega)
    have HLv : Hid (∀ i, ((k - smF (bsV l k) i) - bsV l k i = k - smF (bsV l k) (i + 1))) := fun i => by
      rw [show smF (bsV l k) (i + 1) = smF (bsV l k) i + bsV l k i from rfl]; omega
    have HLb : Hid (∀ i, i ≤ l.length → k - smF (bsV l k) i ≤ 8 ∧ -40 ≤ k - smF (bsV l k) i) := fun i hi => by
      have key : ∀ m, m ≤ l.length → 0 ≤ smF (bsV l k) m ∧ smF (bsV l k) m ≤ 8 * m := by
        intro m
        induction m with
        | zero => intro _; exact ⟨Int.le_refl _, Int.le_refl _⟩
        | succ m ih =>
          intro hm
          have q1 := ih (by omega)
          have q2 := bs_le l k (by omega) hp (i := m) (by omega)
          have q3 := bs_pos l k (by omega) m
          show 0 ≤ smF (bsV l k) m + bsV l k m ∧ smF (bsV l k) m + bsV l k m ≤ _
          omega
      have := key i hi
      omega
    have HS := hid hcell
    clear hcell Hs c1 c3 hz hn0 hco
    generalize hTT : nrm l = T at *
    go_enter Try.func36, Try.ntmps36
    go_wp2_with fail
    refine HN.out.mono ?_
    rintro e w1 ⟨rfl, hw⟩
    have hw' := hw.symm
    subst hw'
    clear hw
    go_wp2_with fail
    refine (HZ.out _ (by omega)).mono ?_
    rintro e w2 ⟨rfl, hO, hB⟩
    rw [E0.out] at hO
    have HO := hid hO
    have HB := hid hB
    clear hO hB HZ E0 HN
    go_wp2_with fail
    go_loopw [7, 8] (fun lv iv wr => ∃ i : Nat, i ≤ l.length ∧ lv = .int .i64 (k - smF (bsV l k) i) ∧ iv = .int .i64 (i : Int) ∧ Hid (OwI w.heap.size wr (.slice (some ⟨w.heap.size, 0, none⟩) l.length l.length) (mkL l.length (o1 l k i))) ∧ Hid (Below w.heap.size w wr)) (fun _ iv _ => l.length - (intOf iv).toNat)
    case atStart => exact ⟨0, Nat.zero_le _, by rw [show smF (bsV l k) 0 = 0 from rfl]; go_num, rfl, HO.out, HB.out⟩
    case round =>
      obtain ⟨i, hi, rfl, rfl, hO, hB⟩ := hrel
      clear HO HB
      by_cases hlt : i < l.length
      · obtain ⟨q1, q2, q3, q4, q5, -⟩ := HQ.out i hlt
        have hce := (hB.out.cell (p := ⟨b, off + i, none⟩) hbl).trans (HS.out i hlt)
        have HAi := hid (HA.out i hlt)
        have hE := HLv.out i
        have HEl := hid hE
        have hb1 := HLb.out i (by omega)
        have hb2 := HLb.out (i + 1) (by omega)
        have hml : (mkL l.length (o1 l k i)).length = l.length := mkL_len _ _
        obtain ⟨y1, y2⟩ := hO.out.cellAt hml.symm i (by rw [hml]; exact hlt)
        have hst := hO.out.set hml.symm i (bsV l k i)
        have he1 := E1.out i hlt
        rw [he1] at hst
        have hml2 : (mkL l.length (o1 l k (i + 1))).length = l.length := mkL_len _ _
        obtain ⟨z1, z2⟩ := hst.1.cellAt hml2.symm i (by rw [hml2]; exact hlt)
        have hg : (mkL l.length (o1 l k (i + 1))).getD i 0 = bsV l k i := by rw [mkL_get _ hlt]; unfold o1; rw [if_pos (by omega)]
        rw [hg] at z1
        have HO2 := hid hst.1
        have HB2 := hid (hB.out.trans (below_of_grown hst.2 hB.out.size (fun j e => by cases e; exact Nat.le_refl _)))
        have hiI : (i : Int) < (l.length : Int) := by omega
        obtain ⟨lv2, hl2⟩ : ∃ y, k - smF (bsV l k) (i + 1) = y := ⟨_, rfl⟩
        rw [hl2] at hb2 HEl
        have HL2 := hid hl2
        clear hst hO hB hml hml2 hg he1 HS HA HQ HLv HLb E1 HLf hE hl2
        generalize l.getD i 0 = x at *
        generalize absV x = ax at *
        generalize bsV l k i = bx at *
        generalize k - smF (bsV l k) i = lv at *
        have hlv : lv - bx = lv2 := HEl.out
        have hlv1 : -48 ≤ lv - bx ∧ lv - bx ≤ 48 := by omega
        clear hlv
        go_wp2_with fail
        refine (HAi.out _).mono ?_
        rintro e w3 ⟨rfl, rfl⟩
        go_wp2
        go_roundw
        case rel => exact ⟨i + 1, by omega, by rw [HL2.out, ← HEl.out], by go_num, HO2.out, HB2.out⟩
        case measure => simp [intOf]; omega
      · obtain rfl : i = l.length := by omega
        obtain ⟨t0, ht0⟩ := Int.eq_ofNat_of_zero_le HLf.out.1
        have hlfn : t0 < l.length := by have := HLf.out.2; omega
        have hlv : k - smF (bsV l k) l.length = (t0 : Int) := ht0
        rw [hlv]
        have hmk := make_b l.length (by omega)
        have HL0 : Hid (SD w l.length w.heap.size wr.heap.size (o2 l k 0) (dnB l k 0) (wr.alloc (.cells (bb l.length (fun _ => false)) 4))) := by
          have e1 : mkL l.length (o1 l k l.length) = mkL l.length (o2 l k 0) := mkL_congr (fun j hj => by unfold o1 o2; rw [if_pos hj, if_neg (by omega), Int.add_zero])
          have e2 : bb l.length (fun _ => false) = bb l.length (dnB l k 0) := by
            unfold bb; congr 2
          have hO2 := hO.out.alloc (.cells (bb l.length (fun _ => false)) 4)
          rw [e1] at hO2
          refine ⟨hO2, ?_, ?_, hB.out.size, bmore hB.out _⟩
          · rw [e2]; exact Blk.new wr _ _
          · have := hO.out.block w.heap.size rfl; omega
        have HUp : Hid (∀ j, upV l k j = o2 l k t0 j) := fun j => by
          show bsV l k j + (if ((rkN l.length (rsV l k) j : Nat) : Int) < lfV l k then 1 else 0) = bsV l k j + (if rkN l.length (rsV l k) j < t0 then 1 else 0)
          rw [ht0]
          by_cases q : rkN l.length (rsV l k) j < t0
          · rw [if_pos q, if_pos (by omega)]
          · rw [if_neg q, if_neg (by omega)]
        clear hO hB hlv HLv HLb E1 HLf ht0
        go_wp2_with fail
        clear hmk
        generalize wr.heap.size = D at *
        go_loopw [7] (fun lv wq => ∃ t : Nat, t ≤ t0 ∧ lv = .int .i64 ((t0 - t : Nat) : Int) ∧ Hid (SD w l.length w.heap.size D (o2 l k t) (dnB l k t) wq)) (fun lv _ => (intOf lv).toNat)
        case atStart => exact ⟨0, Nat.zero_le _, rfl, HL0.out⟩
        case round =>
          obtain ⟨t, ht, rfl, hS⟩ := hrel
          clear HL0
          by_cases htt : t < t0
          · obtain ⟨M, hM⟩ : ∃ M, t0 - t = M := ⟨_, rfl⟩
            have Hm : Hid (((t0 - (t + 1) : Nat) : Int) = (M : Int) - 1) := by show _ = _; omega
            have hMp : 0 < (M : Int) := by omega
            have hMn : 0 < M := by omega
            have hMd : decide (0 < M) = true := decide_eq_true hMn
            rw [hM]
            obtain ⟨bp, hb1, hb2, hb3⟩ := pick_rk (pick_cnt l.length (rsV l k) t (by omega)) (show t < l.length by omega)
            have HBp : Hid (bsF (rsV l k) (dnB l k t) l.length = (bp : Int)) := hb1
            have HRk := hid hb3
            have HSt : Hid (∀ i, bsF (rsV l k) (dnB l k t) (i + 1) = if (!dnB l k t i && (decide (bsF (rsV l k) (dnB l k t) i < 0) || decide (rsV l k (bsF (rsV l k) (dnB l k t) i).toNat < rsV l k i))) = true then (i : Int) else bsF (rsV l k) (dnB l k t) i) := fun _ => rfl
            have HSpec := hid (bs_spec (rsV l k) (dnB l k t))
            have hm2 : (M : Int) ≤ 4 := by omega
            clear hb1 hb3 hM
            generalize wr = wo at *
            go_wp2_with fail
            go_loopw [10, 11] (fun bv iv wq => ∃ i : Nat, i ≤ l.length ∧ bv = .int .i64 (bsF (rsV l k) (dnB l k t) i) ∧ iv = .int .i64 (i : Int) ∧ Hid (SD w l.length w.heap.size D (o2 l k t) (dnB l k t) wq)) (fun _ iv _ => l.length - (intOf iv).toNat)
            case atStart => exact ⟨0, Nat.zero_le _, rfl, rfl, hS.out⟩
            case round =>
              obtain ⟨i, hi, rfl, rfl, hS2⟩ := hrel
              clear hS
              by_cases hlt : i < l.length
              · have hst := HSt.out i
                have HSti := hid hst
                obtain ⟨q1, q2, q3, q4, q5, q6⟩ := HQ.out i hlt
                have hce := (hS2.out.b.cell (p := ⟨b, off + i, none⟩) hbl).trans (HS.out i hlt)
                have hd1 := (Blk.cell hS2.out.d i).trans (bb_get hlt)
                have HAi := hid (HA.out i hlt)
                have hiI : (i : Int) < (l.length : Int) := by omega
                have HD := fun n => hid (hS2.out.later (below_drewN (Below.refl _ _) n))
                clear hst
                cases hdn : dnB l k t i
                · rw [hdn] at hd1 HSti
                  rcases HSpec.out i with ⟨g1, _⟩ | ⟨bq, g1, g2, _, _⟩
                  · rw [g1] at HSti ⊢
                    have HR : Hid (bsF (rsV l k) (dnB l k t) (i + 1) = (i : Int)) := by show _ = _; rw [HSti.out]; rfl
                    clear HSpec HSt HSti g1 HBp HRk HUp HQ q1 q2 q3 q6 hS2
                    go_wp2_with fail
                    go_quiet ((go_at_call 52; exact Calls.quiet_of_same (HAi.out _)))
                    go_wp2
                    go_roundw
                    case rel => exact ⟨i + 1, by omega, by rw [HR.out], by go_num, (HD _).out⟩
                    case measure => simp [intOf]; omega
                  · rw [g1] at HSti ⊢
                    obtain ⟨-, -, -, p4, p5, p6⟩ := HQ.out bq (by omega)
                    have hcb := (hS2.out.b.cell (p := ⟨b, off + bq, none⟩) hbl).trans (HS.out bq (by omega))
                    have HAb := hid (HA.out bq (by omega))
                    have hbI : (bq : Int) < (l.length : Int) := by omega
                    have hbN : ¬ (bq : Int) < 0 := by omega
                    have hGe : ∀ i, 0 ≤ rsV l k i ∧ rsV l k i ≤ 67108864 := fun i => by
                      obtain ⟨-, g5, g6⟩ := split_at l k i (by rw [hTT]; exact hp)
                      rw [hTT] at g6
                      omega
                    have hTne : ¬ T = 0 := by omega
                    have hTd : decide (T = 0) = false := decide_eq_false hTne
                    have gi := hGe i
                    have gq := hGe bq
                    have w1 : IntKind.i64.wrap (k * absV (l.getD i 0)) = k * absV (l.getD i 0) := wrapk_of (by omega) (by omega)
                    have w2 : IntKind.i64.wrap (k * absV (l.getD bq 0)) = k * absV (l.getD bq 0) := wrapk_of (by omega) (by omega)
                    have w3 : IntKind.i64.wrap (rsV l k i) = rsV l k i := wrapk_of (by omega) (by omega)
                    have w4 : IntKind.i64.wrap (rsV l k bq) = rsV l k bq := wrapk_of (by omega) (by omega)
                    by_cases hrr : rsV l k bq < rsV l k i
                    · have HR : Hid (bsF (rsV l k) (dnB l k t) (i + 1) = (i : Int)) := by
                        show _ = _
                        rw [HSti.out, Int.toNat_natCast, decide_eq_true hrr]; simp
                      have hde : decide (rsV l k bq < rsV l k i) = true := decide_eq_true hrr
                      clear HSpec HSt HSti g1 HBp HRk HUp HQ q1 q2 q3 hS2 hrr hGe
                      generalize l.getD i 0 = x at *
                      generalize l.getD bq 0 = y at *
                      generalize absV x = ax at *
                      generalize absV y = ay at *
                      generalize rsV l k i = ri at *
                      generalize rsV l k bq = rb at *
                      go_wp2_with fail
                      go_quiet ((first | (go_at_call 52; exact Calls.quiet_of_same (HAi.out _)) | (go_at_call 52; exact Calls.quiet_of_same (HAb.out _))))
                      go_wp2
                      go_roundw
                      case rel => exact ⟨i + 1, by omega, by rw [HR.out], by go_num, (HD _).out⟩
                      case measure => simp [intOf]; omega
                    · have HR : Hid (bsF (rsV l k) (dnB l k t) (i + 1) = (bq : Int)) := by
                        show _ = _
                        rw [HSti.out, Int.toNat_natCast, decide_eq_false hrr, decide_eq_false hbN]; rfl
                      have hde : decide (rsV l k bq < rsV l k i) = false := decide_eq_false hrr
                      clear HSpec HSt HSti g1 HBp HRk HUp HQ q1 q2 q3 hS2 hrr hGe
                      generalize l.getD i 0 = x at *
                      generalize l.getD bq 0 = y at *
                      generalize absV x = ax at *
                      generalize absV y = ay at *
                      generalize rsV l k i = ri at *
                      generalize rsV l k bq = rb at *
                      go_wp2_with fail
                      go_quiet ((first | (go_at_call 52; exact Calls.quiet_of_same (HAi.out _)) | (go_at_call 52; exact Calls.quiet_of_same (HAb.out _))))
                      go_wp2
                      go_roundw
                      case rel => exact ⟨i + 1, by omega, by rw [HR.out], by go_num, (HD _).out⟩
                      case measure => simp [intOf]; omega
                · rw [hdn] at hd1 HSti
                  have HR : Hid (bsF (rsV l k) (dnB l k t) (i + 1) = bsF (rsV l k) (dnB l k t) i) := by show _ = _; rw [HSti.out]; rfl
                  clear HSpec HSt HSti HBp HRk HUp HQ q1 q2 q3 q6 hS2
                  generalize bsF (rsV l k) (dnB l k t) i = bv at *
                  go_wp2_with fail
                  go_quiet ((go_at_call 52; exact Calls.quiet_of_same (HAi.out _)))
                  go_wp2
                  go_roundw
                  case rel => exact ⟨i + 1, by omega, by rw [HR.out], by go_num, (HD _).out⟩
                  case measure => simp [intOf]; omega
              · obtain rfl : i = l.length := by omega
                rw [HBp.out]
                have hrk := HRk.out
                have hDn : dnB l k t bp = false := by unfold dnB; exact decide_eq_false (by omega)
                have hbset : (bb l.length (dnB l k t)).setIfInBounds bp (.bool true) = bb l.length (dnB l k (t + 1)) := bb_set hb2 (by unfold dnB; exact decide_eq_true (by omega)) (fun j hj hne => by
                  have : rkN l.length (rsV l k) j ≠ t := fun e => hne (rk_inj (n := l.length) (r := rsV l k) hj hb2 (by omega))
                  unfold dnB
                  by_cases q : rkN l.length (rsV l k) j < t
                  · rw [decide_eq_true q, decide_eq_true (by omega)]
                  · rw [decide_eq_false q, decide_eq_false (by omega)])
                have hoset : (mkL l.length (o2 l k t)).set bp (o2 l k t bp + 1) = mkL l.length (o2 l k (t + 1)) := set_mk hb2 (by unfold o2; rw [if_pos (by omega), if_neg (by omega)]; omega) (fun j hj hne => by
                  have : rkN l.length (rsV l k) j ≠ t := fun e => hne (rk_inj (n := l.length) (r := rsV l k) hj hb2 (by omega))
                  unfold o2
                  by_cases q : rkN l.length (rsV l k) j < t
                  · rw [if_pos q, if_pos (by omega)]
                  · rw [if_neg q, if_neg (by omega)])
                have hob : 0 ≤ o2 l k t bp ∧ o2 l k t bp ≤ 9 := by
                  obtain ⟨-, q2, q3, -⟩ := HQ.out bp hb2
                  unfold o2; split <;> omega
                have hd1 := (Blk.cell hS2.out.d bp).trans (bb_get hb2)
                have hd2 := Blk.frozen hS2.out.d bp
                have hSD := hS2.out.setD hbset
                have hml : (mkL l.length (o2 l k t)).length = l.length := mkL_len _ _
                obtain ⟨x1, x2⟩ := hSD.o.cellAt hml.symm bp (by rw [hml]; exact hb2)
                rw [mkL_get _ hb2] at x1
                have HSD := hid (hSD.setO hoset)
                have hbpI : (bp : Int) < (l.length : Int) := by omega
                have Hlen := hid hml
                clear hS2 hSD hml hbset hoset hrk hDn HSpec HSt HBp HRk HUp HQ HA
                generalize o2 l k t bp = ov at *
                go_wp2
                go_roundw
                case rel => exact ⟨t + 1, by omega, by rw [Hm.out], HSD.out⟩
                case measure => simp [intOf]; omega
          · obtain rfl : t = t0 := by omega
            rw [Nat.sub_self]
            have E4 : Hid (mkL l.length (o2 l k t) = mkL l.length (o4 l k 0)) := mkL_congr (fun j _ => by rw [← HUp.out]; unfold o4; rw [if_neg (by omega)])
            have HO0 := hid hS.out.o
            rw [E4.out] at HO0
            have HB0 := hid hS.out.b
            have HUb : Hid (∀ i, i < l.length → 0 ≤ upV l k i ∧ upV l k i ≤ 8) := fun i hi => by
              have := up_bd l k (by omega) (by rw [hTT]; exact hp) (by omega) i hi
              omega
            have HEnd : Hid (mkL l.length (o4 l k l.length) = mkL l.length (srE l k)) := mkL_congr (fun j hj => by unfold o4 srE; rw [if_pos hj, hTT, if_neg (by omega)])
            have HSn : Hid (∀ i, i < l.length → l.getD i 0 < 0 → (mkL l.length (o4 l k i)).set i (-(upV l k i)) = mkL l.length (o4 l k (i + 1))) := fun i hi hx =>
              set_mk hi (by unfold o4 sgV; rw [if_pos (by omega), if_pos hx]) (fun j _ hj => by
                unfold o4
                by_cases q : j < i
                · rw [if_pos q, if_pos (by omega)]
                · rw [if_neg q, if_neg (by omega)])
            have HSp : Hid (∀ i, i < l.length → 0 ≤ l.getD i 0 → mkL l.length (o4 l k i) = mkL l.length (o4 l k (i + 1))) := fun i _ hx => mkL_congr (fun j _ => by
              unfold o4
              by_cases q : j < i
              · rw [if_pos q, if_pos (by omega)]
              · by_cases q2 : j = i
                · subst q2
                  rw [if_neg q, if_pos (by omega)]
                  unfold sgV
                  rw [if_neg (by omega)]
                · rw [if_neg q, if_neg (by omega)])
            have HG : Hid (∀ i, i < l.length → (mkL l.length (o4 l k i)).getD i 0 = upV l k i) := fun i hi => by
              rw [mkL_get _ hi]; unfold o4; rw [if_neg (by omega)]
            clear hS E4 HUp HQ HA
            generalize wr = wo at *
            go_wp2_with fail
            go_loopw [12] (fun iv wq => ∃ i : Nat, i ≤ l.length ∧ iv = .int .i64 (i : Int) ∧ Hid (OwI w.heap.size wq (.slice (some ⟨w.heap.size, 0, none⟩) l.length l.length) (mkL l.length (o4 l k i))) ∧ Hid (Below w.heap.size w wq)) (fun iv _ => l.length - (intOf iv).toNat)
            case atStart => exact ⟨0, Nat.zero_le _, rfl, HO0.out, HB0.out⟩
            case round =>
              obtain ⟨i, hi, rfl, hO, hB⟩ := hrel
              clear HO0 HB0
              by_cases hlt : i < l.length
              · have hce := (hB.out.cell (p := ⟨b, off + i, none⟩) hbl).trans (HS.out i hlt)
                have hub := HUb.out i hlt
                have hiI : (i : Int) < (l.length : Int) := by omega
                by_cases hx : l.getD i 0 < 0
                · have hml : (mkL l.length (o4 l k i)).length = l.length := mkL_len _ _
                  obtain ⟨y1, y2⟩ := hO.out.cellAt hml.symm i (by rw [hml]; exact hlt)
                  rw [HG.out i hlt] at y1
                  have hst := hO.out.set hml.symm i (-(upV l k i))
                  rw [HSn.out i hlt hx] at hst
                  have HO2 := hid hst.1
                  have HB2 := hid (hB.out.trans (below_of_grown hst.2 hB.out.size (fun j e => by cases e; exact Nat.le_refl _)))
                  clear hst hO hB hml HSn HSp HG HUb HEnd HS
                  generalize l.getD i 0 = x at *
                  generalize upV l k i = uv at *
                  go_wp2
                  go_roundw
                  case rel => exact ⟨i + 1, by omega, by go_num, HO2.out, HB2.out⟩
                  case measure => simp [intOf]; omega
                · have he := HSp.out i hlt (by omega)
                  have hO2 := hO.out
                  rw [he] at hO2
                  have HO2 := hid hO2
                  have HB2 := hid hB.out
                  clear hO hO2 hB he HSn HSp HG HUb HEnd HS
                  generalize l.getD i 0 = x at *
                  go_wp2
                  go_roundw
                  case rel => exact ⟨i + 1, by omega, by go_num, HO2.out, HB2.out⟩
                  case measure => simp [intOf]; omega
              · obtain rfl : i = l.length := by omega
                have hO2 := hO.out
                rw [HEnd.out] at hO2
                have HO2 := hid hO2
                have HB2 := hid hB.out
                clear hO hO2 hB HSn HSp HG HUb HS
                go_wp2
                go_ret
                exact ⟨_, rfl, HO2.out, HB2.out⟩
end Go.Proofs.Ytbbejjlgfekipaa.SeaS
