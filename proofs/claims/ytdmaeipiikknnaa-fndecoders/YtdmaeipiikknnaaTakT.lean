/- What TakeSlot and StartDecode answer, and the model's own. -/
import Derived.Test.YtdmaeipiikknnaaTakS
namespace Go.Proofs.Ytdmaeipiikknnaa.TakT
open Go.ChangeShapes Go.WideShapes Go.ChangeAt Go.RowKit Go.Proofs.Ytdmaeipiikknnaa.Num Go.Proofs.Ytdmaeipiikknnaa.Sli Go.Proofs.Ytdmaeipiikknnaa.App Go.Proofs.Ytdmaeipiikknnaa.Byt Go.Proofs.Ytdmaeipiikknnaa.CrcM Go.Proofs.Ytdmaeipiikknnaa.Str Go.Proofs.Ytdmaeipiikknnaa.Div Go.Proofs.Ytdmaeipiikknnaa.Dec Go.Proofs.Ytdmaeipiikknnaa.Blk Go.Proofs.Ytdmaeipiikknnaa.Nxt Go.Proofs.Ytdmaeipiikknnaa.Byte Go.Proofs.Ytdmaeipiikknnaa.TakS

/-- What a decoder holds. -/
structure Dv where
  xs : List Int
  at' : Int
  rst : Int
  rng : Int
def dv0 : Dv := ⟨[], 0, 0, 0⟩
/-- The code of TakeSlot. -/
def tC (d : Dv) (lo sz tot : Int) : Int :=
  if dF d.xs.length d.at' d.rst d.rng = 0 then
    if sF lo sz tot = 0 then
      if 9996 < d.at' then 7 else if inB lo (lo + sz - 1) (nV d.rst d.rng tot) then 0 else 8
    else sF lo sz tot
  else dF d.xs.length d.at' d.rst d.rng
/-- The decoder behind a slot that fits. -/
def tN (d : Dv) (lo sz tot : Int) : Dv :=
  ⟨d.xs, ((d.at'.toNat + shI (narI d.rng lo sz tot) : Nat) : Int), pull d.xs d.at'.toNat (d.rst - d.rng / tot * lo) (shI (narI d.rng lo sz tot)), up (narI d.rng lo sz tot) (shI (narI d.rng lo sz tot))⟩
def tD (d : Dv) (lo sz tot : Int) : Dv := if tC d lo sz tot = 0 then tN d lo sz tot else dv0
def stC (xs : List Int) : Int := if 600 < xs.length then 2 else 0
def stD (xs : List Int) : Dv := if 600 < xs.length then dv0 else ⟨xs, 3, pull xs 0 0 3, 16777216⟩

theorem tC_dec {d : Dv} {lo sz tot : Int} (h : ¬ dF d.xs.length d.at' d.rst d.rng = 0) : tC d lo sz tot = dF d.xs.length d.at' d.rst d.rng ∧ tD d lo sz tot = dv0 := by
  have e : tC d lo sz tot = dF d.xs.length d.at' d.rst d.rng := if_neg h
  exact ⟨e, if_neg (by rw [e]; exact h)⟩
theorem tC_slot {d : Dv} {lo sz tot : Int} (h : dF d.xs.length d.at' d.rst d.rng = 0) (h2 : ¬ sF lo sz tot = 0) : tC d lo sz tot = sF lo sz tot ∧ tD d lo sz tot = dv0 := by
  have e : tC d lo sz tot = sF lo sz tot := by unfold tC; rw [if_pos h, if_neg h2]
  exact ⟨e, if_neg (by rw [e]; exact h2)⟩
theorem tC_full {d : Dv} {lo sz tot : Int} (h : dF d.xs.length d.at' d.rst d.rng = 0) (h2 : sF lo sz tot = 0) (h3 : 9996 < d.at') : tC d lo sz tot = 7 ∧ tD d lo sz tot = dv0 := by
  have e : tC d lo sz tot = 7 := by unfold tC; rw [if_pos h, if_pos h2, if_pos h3]
  exact ⟨e, if_neg (by rw [e]; decide)⟩
theorem tC_in {d : Dv} {lo sz tot : Int} {b : Bool} (h : dF d.xs.length d.at' d.rst d.rng = 0) (h2 : sF lo sz tot = 0) (h3 : ¬ 9996 < d.at') (hb : inB lo (lo + sz - 1) (nV d.rst d.rng tot) = b) : tC d lo sz tot = (if b then 0 else 8) ∧ tD d lo sz tot = (if b then tN d lo sz tot else dv0) := by
  have e : tC d lo sz tot = (if b then 0 else 8) := by unfold tC; rw [if_pos h, if_pos h2, if_neg h3, hb]
  refine ⟨e, ?_⟩
  unfold tD
  rw [e]
  cases b <;> rfl
/-- What a call over decoders answers: a code and a decoder in new memory. -/
def DR (w : World) (c : Int) (d : Dv) (e : Ending) (w' : World) : Prop :=
  ∃ v', e = .returned (.agg #[.int .i64 c, v', .int .i64 d.at', .int .i64 d.rst, .int .i64 d.rng]) ∧ OwB w.heap.size w' v' d.xs ∧ Below w.heap.size w w'
theorem nil_ow (base : Nat) (w : World) : OwB base w (.slice none 0 0) [] := World.ownsRow_nil _ _ _ _
/-- An answer of five cells is stored. -/
theorem below_set5 {R : Nat} {a w : World} (h : Below R a w) {b : Nat} (hb : R ≤ b) (x0 x1 x2 x3 x4 : Value) :
    Below R a (((((w.setCell ⟨b, 0, none⟩ x0).setCell ⟨b, 1, none⟩ x1).setCell ⟨b, 2, none⟩ x2).setCell ⟨b, 3, none⟩ x3).setCell ⟨b, 4, none⟩ x4) :=
  below_cell (below_cell (below_cell (below_cell (below_cell h hb _ _) hb _ _) hb _ _) hb _ _) hb _ _
theorem grown_set5 (w : World) (b : Nat) (x0 x1 x2 x3 x4 : Value) :
    w.grownBy (((((w.setCell ⟨b, 0, none⟩ x0).setCell ⟨b, 1, none⟩ x1).setCell ⟨b, 2, none⟩ x2).setCell ⟨b, 3, none⟩ x3).setCell ⟨b, 4, none⟩ x4) (some b) :=
  grown_same (grown_same (grown_same (grown_same (grown_set w b 0 _) (grown_set _ b 1 _)) (grown_set _ b 2 _)) (grown_set _ b 3 _)) (grown_set _ b 4 _)

theorem drewB {n : Nat} {a w : World} (h : Below n a w) : Below n a w.drew := below_drewN h 1
theorem undrewB {w w' : World} (h : Below w.drew.heap.size w.drew w') : Below w.heap.size w w' := ⟨h.os, h.tape, h.output, h.size, h.block⟩
theorem Blk.other4 {w : World} {b : Nat} {vs : Array Value} {t : TypeId} (h : Blk w b vs t) {b' : Nat} (hne : b' ≠ b) (x0 x1 x2 x3 : Value) :
    Blk ((((w.setCell ⟨b', 0, none⟩ x0).setCell ⟨b', 1, none⟩ x1).setCell ⟨b', 2, none⟩ x2).setCell ⟨b', 3, none⟩ x3) b vs t := (((h.other hne 0 x0).other hne 1 x1).other hne 2 x2).other hne 3 x3
theorem Blk.set4 {w : World} {b : Nat} {v0 v1 v2 v3 : Value} {t : TypeId} (h : Blk w b #[v0, v1, v2, v3] t) (x0 x1 x2 x3 : Value) :
    Blk ((((w.setCell ⟨b, 0, none⟩ x0).setCell ⟨b, 1, none⟩ x1).setCell ⟨b, 2, none⟩ x2).setCell ⟨b, 3, none⟩ x3) b #[x0, x1, x2, x3] t := (((h.set 0 x0).set 1 x1).set 2 x2).set 3 x3
theorem grown_set4 (w : World) (b : Nat) (x0 x1 x2 x3 : Value) :
    w.grownBy ((((w.setCell ⟨b, 0, none⟩ x0).setCell ⟨b, 1, none⟩ x1).setCell ⟨b, 2, none⟩ x2).setCell ⟨b, 3, none⟩ x3) (some b) :=
  grown_same (grown_same (grown_same (grown_set w b 0 _) (grown_set _ b 1 _)) (grown_set _ b 2 _)) (grown_set _ b 3 _)

theorem l3Start_calls (v : Value) (xs : List Int) (w : World) (h : Sl .u8 w v xs) (hx : BytesL xs) (hlen : xs.length ≤ 1048576) :
    Calls Try.prog 39 #[v] w fun e w' => ∃ v', e = .returned (.agg #[v', .int .i64 3, .int .i64 (pull xs 0 0 3), .int .i64 16777216]) ∧ OwB w.heap.size w' v' xs ∧ Below w.heap.size w w' := by
  have H := hid (h.later (bmore (Below.refl _ w) (.cells #[.slice none 0 0, .int .i64 0, .int .i64 0, .int .i64 0] 25)))
  have HB := hid (bmore (Below.refl _ w) (.cells #[.slice none 0 0, .int .i64 0, .int .i64 0, .int .i64 0] 25))
  have hN := hid (Blk.new w #[.slice none 0 0, .int .i64 0, .int .i64 0, .int .i64 0] 25)
  obtain ⟨a, cap, rfl, _⟩ := h
  have g0 := hid (CrcM.getD_bd hx 0)
  have g1 := hid (CrcM.getD_bd hx 1)
  have g2 := hid (CrcM.getD_bd hx 2)
  have e0 := l3Byte_calls _ xs 0 _ H.out hx
  have e1 := l3Byte_calls _ xs 1 _ H.out hx
  have e2 := l3Byte_calls _ xs 2 _ H.out hx
  have HP : Hid (xs.getD 0 0 * 65536 + xs.getD 1 0 * 256 + xs.getD 2 0 = pull xs 0 0 3) := by unfold Hid; simp only [pull, Nat.zero_add]; omega
  generalize xs.getD 0 0 = x0 at *
  generalize xs.getD 1 0 = x1 at *
  generalize xs.getD 2 0 = x2 at *
  obtain ⟨b01, b02⟩ := g0.out
  obtain ⟨b11, b12⟩ := g1.out
  obtain ⟨b21, b22⟩ := g2.out
  have E0 := hid e0
  have E1 := hid e1
  have E2 := hid e2
  clear e0 e1 e2 g0 g1 g2
  go_enter Try.func39, Try.ntmps39
  go_wp2_with fail
  refine E0.out.mono ?_
  rintro e w1 ⟨rfl, rfl⟩
  go_wp2_with fail
  refine E1.out.mono ?_
  rintro e w1 ⟨rfl, rfl⟩
  go_wp2_with fail
  refine E2.out.mono ?_
  rintro e w1 ⟨rfl, rfl⟩
  go_wp2_with fail
  refine (l1Copy_calls _ xs _ H.out hlen).mono ?_
  rintro e w2 ⟨g', cap', rfl, ho, hb⟩
  obtain ⟨c0, c1, c2, c3, f0, f1, f2, f3⟩ := (hN.out.later hb).four
  have HO := hid ho
  have HB2 := hid (bthen HB.out hb)
  clear ho hb
  go_wp2
  refine bodyPost_ret (v := .agg #[.slice (some ⟨g', 0, none⟩) xs.length cap', .int .i64 3, .int .i64 (x0 * 65536 + x1 * 256 + x2), .int .i64 16777216]) (by simp [results, Try.results39, go_sem, c0, c1, c2, c3]) rfl ⟨.slice (some ⟨g', 0, none⟩) xs.length cap', by rw [HP.out], ?_, ?_⟩
  · refine (HO.out.kept (row := some w.heap.size) ?_ (fun j e => by cases e; simp)).mono (by simp)
    exact grown_same (grown_same (grown_same (grown_set _ _ 0 _) (grown_set _ _ 1 _)) (grown_set _ _ 2 _)) (grown_set _ _ 3 _)
  · exact below_cell (below_cell (below_cell (below_cell HB2.out (Nat.le_refl _) _ _) (Nat.le_refl _) _ _) (Nat.le_refl _) _ _) (Nat.le_refl _) _ _
set_option maxHeartbeats 2000000 in
theorem specTake_calls (v : Value) (d : Dv) (lo sz tot : Int) (w : World) (h : Sl .u8 w v d.xs) (hx : BytesL d.xs) (hlen : d.xs.length ≤ 1048576) :
    Calls Try.prog 9 #[.agg #[v, .int .i64 d.at', .int .i64 d.rst, .int .i64 d.rng], .agg #[.int .i64 lo, .int .i64 sz, .int .i64 tot]] w (DR w (tC d lo sz tot) (tD d lo sz tot)) := by
  obtain ⟨xs, at', rst, rng⟩ := d
  dsimp only at *
  have H := hid h
  obtain ⟨a, cap, rfl, _⟩ := h
  by_cases hd : dF xs.length at' rst rng = 0
  · by_cases hs : sF lo sz tot = 0
    · obtain ⟨hn, ⟨ha1, ha2⟩, ⟨h1, h2⟩, h8, h9⟩ := of_dF hd
      obtain ⟨⟨h3, h4⟩, ⟨h5, h5'⟩, h6, h7⟩ := of_sF hs
      by_cases hf : 9996 < at'
      · obtain ⟨e1, e2⟩ := tC_full (d := ⟨xs, at', rst, rng⟩) hd hs hf
        rw [e1, e2]
        go_enter Try.func9, Try.ntmps9
        go_wp2_with fail
        refine (specDF_calls _ _ _ _ _ _ _ hlen).mono ?_
        rintro e w1 ⟨rfl, hb⟩
        rw [hd]
        obtain ⟨A, B, C, hall, hsz⟩ := boxes3 hb
        clear hb
        obtain ⟨b0, b1, b2, _⟩ := B.three
        go_wp2_with fail
        refine (specSF_calls _ _ _ _).mono ?_
        rintro e w2 ⟨rfl, hb⟩
        rw [hs]
        have hall2 := hid (bthen hall hb)
        obtain ⟨a0, a1, a2, a3, _⟩ := (A.later hb).four
        obtain ⟨c0, c1, c2, c3, c4, f0, f1, f2, f3, f4⟩ := (C.later hb).five
        clear hb hall A B C b0 b1 b2
        go_wp2
        exact bodyPost_ret (v := .agg #[.int .i64 7, .slice none 0 0, .int .i64 0, .int .i64 0, .int .i64 0]) (by simp [results, Try.results9, go_sem, c0, c1, c2, c3, c4]) rfl ⟨_, rfl, nil_ow _ _, below_set5 hall2.out (by omega) _ _ _ _ _⟩
      · obtain ⟨at', rfl⟩ := Int.eq_ofNat_of_zero_le ha1
        have h6' : rst ≤ 16777216 := by omega
        cases hv : inB lo (lo + sz - 1) (nV rst rng tot)
        · obtain ⟨e1, e2⟩ := tC_in (d := ⟨xs, (at' : Int), rst, rng⟩) hd hs hf hv
          rw [e1, e2]
          go_enter Try.func9, Try.ntmps9
          go_wp2_with fail
          refine (specDF_calls _ _ _ _ _ _ _ hlen).mono ?_
          rintro e w1 ⟨rfl, hb⟩
          rw [hd]
          obtain ⟨A, B, C, hall, hsz⟩ := boxes3 hb
          clear hb
          obtain ⟨b0, b1, b2, _⟩ := B.three
          go_wp2_with fail
          refine (specSF_calls _ _ _ _).mono ?_
          rintro e w2 ⟨rfl, hb⟩
          rw [hs]
          have hall2 := hid (bthen hall hb)
          obtain ⟨a0, a1, a2, a3, _⟩ := (A.later hb).four
          obtain ⟨b0, b1, b2, _⟩ := (B.later hb).three
          obtain ⟨c0, c1, c2, c3, c4, f0, f1, f2, f3, f4⟩ := (C.later hb).five
          clear hb hall A B C
          go_wp2_with fail
          go_quiet ((first | (go_at_call 25; refine Calls.quiet_of (l3Value_calls _ rst rng tot _ a2 a3 h1 h2 h3 h4 h8 h6')) | (go_at_call 31; exact Calls.quiet_of_same (l1In_calls _ _ _ _))))
          rw [hv]
          go_wp2
          exact bodyPost_ret (v := .agg #[.int .i64 8, .slice none 0 0, .int .i64 0, .int .i64 0, .int .i64 0]) (by simp [results, Try.results9, go_sem, c0, c1, c2, c3, c4]) rfl ⟨_, rfl, nil_ow _ _, below_set5 (below_drewN hall2.out nq) (by omega) _ _ _ _ _⟩
        · obtain ⟨e1, e2⟩ := tC_in (d := ⟨xs, (at' : Int), rst, rng⟩) hd hs hf hv
          rw [e1, e2]
          obtain ⟨hv1, hv2⟩ := of_inB hv
          obtain ⟨r1, r2⟩ := slot_in rst rng lo sz tot h1 h2 h3 h4 (by omega) (by omega) hv1 (by omega)
          go_enter Try.func9, Try.ntmps9
          go_wp2_with fail
          refine (specDF_calls _ _ _ _ _ _ _ hlen).mono ?_
          rintro e w1 ⟨rfl, hb⟩
          rw [hd]
          obtain ⟨A, B, C, hall, hsz⟩ := boxes3 hb
          clear hb
          obtain ⟨b0, b1, b2, _⟩ := B.three
          go_wp2_with fail
          refine (specSF_calls _ _ _ _).mono ?_
          rintro e w2 ⟨rfl, hb⟩
          rw [hs]
          have hall2 := hid (bthen hall hb)
          obtain ⟨a0, a1, a2, a3, _⟩ := (A.later hb).four
          obtain ⟨b0, b1, b2, _⟩ := (B.later hb).three
          have HA := hid (A.later hb)
          have HC := hid (C.later hb)
          have HB := hid (B.later hb)
          have hsz2 := Nat.le_trans hsz hb.size
          clear hb hall A B C
          go_wp2_with fail
          go_quiet ((first | (go_at_call 25; refine Calls.quiet_of (l3Value_calls _ rst rng tot _ a2 a3 h1 h2 h3 h4 h8 h6')) | (go_at_call 31; exact Calls.quiet_of_same (l1In_calls _ _ _ _))))
          rw [hv]
          have HW := hid (below_drewN hall2.out nq)
          have HA2 : Hid (Blk (w2.drewN nq) w.heap.size #[.slice a xs.length cap, .int .i64 at', .int .i64 rst, .int .i64 rng] 25) := HA.out
          have HC2 : Hid (Blk (w2.drewN nq) (w.heap.size + 1 + 1) #[.int .i64 0, .slice none 0 0, .int .i64 0, .int .i64 0, .int .i64 0] 31) := HC.out
          have HB2 : Hid (Blk (w2.drewN nq) (w.heap.size + 1) #[.int .i64 lo, .int .i64 sz, .int .i64 tot] 27) := HB.out
          have hsz3 : w.heap.size + 3 ≤ (w2.drewN nq).heap.size := hsz2
          clear HA HC HB a0 a1 a2 a3 b0 b1 b2 hall2 hsz2 hsz hv1 hv2 hv e1 e2
          generalize w2.drewN nq = W at *
          obtain ⟨a0, a1, a2, a3, _⟩ := HA2.out.four
          go_wp2_with fail
          refine wp_region_noPanic ?_
          refine wp_region_held_drew (S := fun W => W.cell? ⟨w.heap.size, 0, none⟩ = some (.slice a xs.length cap) ∧ W.cell? ⟨w.heap.size, 1, none⟩ = some (.int .i64 at') ∧ W.cell? ⟨w.heap.size, 2, none⟩ = some (.int .i64 rst) ∧ W.cell? ⟨w.heap.size, 3, none⟩ = some (.int .i64 rng)) (by kernel_rfl) (by first | exact ⟨HA4.out.cell 0, HA4.out.cell 1, HA4.out.cell 2, HA4.out.cell 3⟩ | exact ⟨(HA3.out.alloc _).cell 0, (HA3.out.alloc _).cell 1, (HA3.out.alloc _).cell 2, (HA3.out.alloc _).cell 3⟩ | exact ⟨HA3.out.cell 0, HA3.out.cell 1, HA3.out.cell 2, HA3.out.cell 3⟩ | exact ⟨(HA2.out.alloc _).cell 0, (HA2.out.alloc _).cell 1, (HA2.out.alloc _).cell 2, (HA2.out.alloc _).cell 3⟩ | exact ⟨a0, a1, a2, a3⟩) (fun hHeld => ?_)
          (refine wpAnyH_take (i := 0) (v := ?_) rfl (by kernel_rfl) (by kernel_rfl) (by kernel_rfl) (fun _ _ _ h => h) (Or.inl ⟨by rfl, ?_⟩) hHeld ?_; rotate_left; (intro w hSw; (obtain ⟨s0, s1, s2, s3⟩ := hSw); (go_simp <;> with_reducible rfl)); simp only [List.getElem_toArray, List.getElem_cons_zero, Act.put, List.setIfInBounds_toArray, List.set_cons_zero, List.set_cons_succ])
          (refine wpAnyH_take (i := 1) (v := ?_) rfl (by kernel_rfl) (by kernel_rfl) (by kernel_rfl) (fun _ _ _ h => h) (Or.inl ⟨by rfl, ?_⟩) hHeld ?_; rotate_left; (intro w hSw; (obtain ⟨s0, s1, s2, s3⟩ := hSw); (go_simp <;> with_reducible rfl)); simp only [List.getElem_toArray, List.getElem_cons_zero, List.getElem_cons_succ, Act.put, List.setIfInBounds_toArray, List.set_cons_zero, List.set_cons_succ])
          (refine wpAnyH_take (i := 3) (v := ?_) rfl (by kernel_rfl) (by kernel_rfl) (by kernel_rfl) (fun _ _ _ h => h) (Or.inl ⟨by rfl, ?_⟩) hHeld ?_; rotate_left; (intro w hSw; (obtain ⟨s0, s1, s2, s3⟩ := hSw); (go_simp <;> with_reducible rfl)); simp only [List.getElem_toArray, List.getElem_cons_zero, List.getElem_cons_succ, Act.put, List.setIfInBounds_toArray, List.set_cons_zero, List.set_cons_succ])
          (refine wpAnyH_take (i := 4) (v := ?_) rfl (by kernel_rfl) (by kernel_rfl) (by kernel_rfl) (fun _ _ _ h => h) (Or.inl ⟨by rfl, ?_⟩) hHeld ?_; rotate_left; (intro w hSw; (obtain ⟨s0, s1, s2, s3⟩ := hSw); (go_simp <;> with_reducible rfl)); simp only [List.getElem_toArray, List.getElem_cons_zero, List.getElem_cons_succ, Act.put, List.setIfInBounds_toArray, List.set_cons_zero, List.set_cons_succ])
          (refine wpAnyH_take (i := 5) (v := ?_) rfl (by kernel_rfl) (by kernel_rfl) (by kernel_rfl) (fun _ _ _ h => h) (Or.inl ⟨by rfl, ?_⟩) hHeld ?_; rotate_left; (intro w hSw; (obtain ⟨s0, s1, s2, s3⟩ := hSw); (go_simp <;> with_reducible rfl)); simp only [List.getElem_toArray, List.getElem_cons_zero, List.getElem_cons_succ, Act.put, List.setIfInBounds_toArray, List.set_cons_zero, List.set_cons_succ])
          (refine wpAnyH_take (i := 6) (v := ?_) rfl (by kernel_rfl) (by kernel_rfl) (by kernel_rfl) (fun _ _ _ h => h) (Or.inl ⟨by rfl, ?_⟩) hHeld ?_; rotate_left; (intro w hSw; (obtain ⟨s0, s1, s2, s3⟩ := hSw); (go_simp <;> with_reducible rfl)); simp only [List.getElem_toArray, List.getElem_cons_zero, List.getElem_cons_succ, Act.put, List.setIfInBounds_toArray, List.set_cons_zero, List.set_cons_succ])
          (refine wpAnyH_take (i := 7) (v := ?_) rfl (by kernel_rfl) (by kernel_rfl) (by kernel_rfl) (fun _ _ _ h => h) (Or.inl ⟨by rfl, ?_⟩) hHeld ?_; rotate_left; (intro w hSw; (obtain ⟨s0, s1, s2, s3⟩ := hSw); (go_simp <;> with_reducible rfl)); simp only [List.getElem_toArray, List.getElem_cons_zero, List.getElem_cons_succ, Act.put, List.setIfInBounds_toArray, List.set_cons_zero, List.set_cons_succ])
          (refine wpAnyH_take (i := 8) (v := ?_) rfl (by kernel_rfl) (by kernel_rfl) (by kernel_rfl) (fun _ _ _ h => h) (Or.inl ⟨by rfl, ?_⟩) hHeld ?_; rotate_left; (intro w hSw; (obtain ⟨s0, s1, s2, s3⟩ := hSw); (go_simp <;> with_reducible rfl)); simp only [List.getElem_toArray, List.getElem_cons_zero, List.getElem_cons_succ, Act.put, List.setIfInBounds_toArray, List.set_cons_zero, List.set_cons_succ])
          refine wpAnyH_ready (rs := [2, 10]) (by kernel_rfl) (by simp) ?_
          refine (AllReadyH.cons rfl (fun K hK => ?_) (AllReadyH.cons rfl (fun K hK => ?_) AllReadyH.nil))
          · go_simp
            (refine (l1Copy_calls _ xs _ (Sl.later (w' := W.drew) H.out (drewB HW.out)) hlen).mono ?_; rintro e W3 ⟨g', cap', rfl, ho, hb3⟩; have HO := hid ho; have HA3 := hid (Blk.laterD HA2.out hb3); have HC3 := hid (Blk.laterD HC2.out hb3); have HB3 := hid (Blk.laterD HB2.out hb3); have HW3 := hid (bthen HW.out (undrewB hb3)))
            refine hK.out _ _ (by first | exact ⟨HA4.out.cell 0, HA4.out.cell 1, HA4.out.cell 2, HA4.out.cell 3⟩ | exact ⟨(HA3.out.alloc _).cell 0, (HA3.out.alloc _).cell 1, (HA3.out.alloc _).cell 2, (HA3.out.alloc _).cell 3⟩ | exact ⟨HA3.out.cell 0, HA3.out.cell 1, HA3.out.cell 2, HA3.out.cell 3⟩ | exact ⟨(HA2.out.alloc _).cell 0, (HA2.out.alloc _).cell 1, (HA2.out.alloc _).cell 2, (HA2.out.alloc _).cell 3⟩ | exact ⟨a0, a1, a2, a3⟩) (fun hHeld => ?_)
            clear hK K
            try dsimp only
            (refine wpAnyH_take (i := 9) (v := ?_) rfl (by kernel_rfl) (by kernel_rfl) (by kernel_rfl) (fun _ _ _ h => h) (Or.inl ⟨by rfl, ?_⟩) hHeld ?_; rotate_left; (intro w hSw; (obtain ⟨s0, s1, s2, s3⟩ := hSw); (go_simp <;> with_reducible rfl)); simp only [List.getElem_toArray, List.getElem_cons_zero, List.getElem_cons_succ, Act.put, List.setIfInBounds_toArray, List.set_cons_zero, List.set_cons_succ])
            refine wpAnyH_ready (rs := [10]) (by kernel_rfl) (by simp) ?_
            refine (AllReadyH.cons rfl (fun K hK => ?_) AllReadyH.nil)
            go_simp
            skip
            refine hK.out _ _ (by first | exact ⟨HA4.out.cell 0, HA4.out.cell 1, HA4.out.cell 2, HA4.out.cell 3⟩ | exact ⟨(HA3.out.alloc _).cell 0, (HA3.out.alloc _).cell 1, (HA3.out.alloc _).cell 2, (HA3.out.alloc _).cell 3⟩ | exact ⟨HA3.out.cell 0, HA3.out.cell 1, HA3.out.cell 2, HA3.out.cell 3⟩ | exact ⟨(HA2.out.alloc _).cell 0, (HA2.out.alloc _).cell 1, (HA2.out.alloc _).cell 2, (HA2.out.alloc _).cell 3⟩ | exact ⟨a0, a1, a2, a3⟩) (fun hHeld => ?_)
            clear hK K
            try simp only [List.getElem_toArray, List.getElem_cons_zero, List.getElem_cons_succ, Act.put, List.setIfInBounds_toArray, List.set_cons_zero, List.set_cons_succ]
            refine wpAnyH_ready (rs := [11]) (by kernel_rfl) (by simp) ?_
            refine (AllReadyH.cons rfl (fun K hK => ?_) AllReadyH.nil)
            go_simp
            (first | (have HA4 := hid (Blk.other4 HA3.out (b' := W.heap.size) (by omega) (.slice (some ⟨g', 0, none⟩) xs.length cap') (.int .i64 at') (.int .i64 rst) (.int .i64 rng))) | skip)
            refine hK.out _ _ (by first | exact ⟨HA4.out.cell 0, HA4.out.cell 1, HA4.out.cell 2, HA4.out.cell 3⟩ | exact ⟨(HA3.out.alloc _).cell 0, (HA3.out.alloc _).cell 1, (HA3.out.alloc _).cell 2, (HA3.out.alloc _).cell 3⟩ | exact ⟨HA3.out.cell 0, HA3.out.cell 1, HA3.out.cell 2, HA3.out.cell 3⟩ | exact ⟨(HA2.out.alloc _).cell 0, (HA2.out.alloc _).cell 1, (HA2.out.alloc _).cell 2, (HA2.out.alloc _).cell 3⟩ | exact ⟨a0, a1, a2, a3⟩) (fun hHeld => ?_)
            clear hK K
            try simp only [List.getElem_toArray, List.getElem_cons_zero, List.getElem_cons_succ, Act.put, List.setIfInBounds_toArray, List.set_cons_zero, List.set_cons_succ]
            refine wpAnyH_done (by kernel_rfl) ?_ _
            refine NoPanic.normal ?_
            have HP : Hid (Blk (W3.alloc (.cells #[.slice (some ⟨g', 0, none⟩) xs.length cap', .int .i64 at', .int .i64 rst, .int .i64 rng] 25)) W3.heap.size #[.slice (some ⟨g', 0, none⟩) xs.length cap', .int .i64 at', .int .i64 rst, .int .i64 rng] 25) := Blk.new _ _ _
            have HO5 : Hid (OwB W.heap.size (W3.alloc (.cells #[.slice (some ⟨g', 0, none⟩) xs.length cap', .int .i64 at', .int .i64 rst, .int .i64 rng] 25)) (.slice (some ⟨g', 0, none⟩) xs.length cap') xs) := HO.out.alloc _
            have HC5 := hid (HC3.out.alloc (.cells #[.slice (some ⟨g', 0, none⟩) xs.length cap', .int .i64 at', .int .i64 rst, .int .i64 rng] 25))
            have HB5 := hid (HB3.out.alloc (.cells #[.slice (some ⟨g', 0, none⟩) xs.length cap', .int .i64 at', .int .i64 rst, .int .i64 rng] 25))
            have HW5 := hid (bmore HW3.out (.cells #[.slice (some ⟨g', 0, none⟩) xs.length cap', .int .i64 at', .int .i64 rst, .int .i64 rng] 25))
            have hp : w.heap.size + 3 ≤ W3.heap.size := Nat.le_trans hsz3 (undrewB hb3).size
            clear hHeld HO HA3 HC3 HB3 HW3 ho hb3
            generalize W3.alloc (.cells #[.slice (some ⟨g', 0, none⟩) xs.length cap', .int .i64 at', .int .i64 rst, .int .i64 rng] 25) = W5 at *
            generalize W3.heap.size = p at *
            obtain ⟨b0, b1, b2, _⟩ := HB5.out.three
            clear a0 a1 a2 a3
            go_wp2_with fail
            refine (l3Take_calls p _ xs at' rst rng lo sz tot _ _ HP.out (fun w' hg => (ow_apart HO5.out HP.out (by decide) hg).sl) hx h1 h2 h3 h4 h5 h6 (by omega) r1 r2 (by omega)).mono ?_
            rintro e W6 ⟨⟨r, rfl⟩, hB6, hG6⟩
            have HO6 := hid ((ow_apart HO5.out HP.out (by decide) hG6).mono (base' := w.heap.size) (by omega))
            obtain ⟨c0, c1, c2, c3, c4, f0, f1, f2, f3, f4⟩ := (HC5.out.kept hG6 (by intro e; simp at e; omega)).five
            have HW6 := hid (HW5.out.trans (below_of_grown hG6 HW5.out.size (fun j e => by cases e; omega)))
            obtain ⟨d0, d1, d2, d3, _⟩ := hB6.four
            have HC6 := hid (HC5.out.kept hG6 (by intro e; simp at e; omega))
            clear hB6 hG6 HP HO5 HC5 HB5 HW5 b0 b1 b2
            have Q : Hid (Ending.returned (.agg #[.int .i64 0, .slice (some ⟨g', 0, none⟩) xs.length cap', .int .i64 ((at' + shI (narI rng lo sz tot) : Nat) : Int), .int .i64 (pull xs at' (rst - rng / tot * lo) (shI (narI rng lo sz tot))), .int .i64 (up (narI rng lo sz tot) (shI (narI rng lo sz tot)))]) = .returned (.agg #[.int .i64 0, .slice (some ⟨g', 0, none⟩) xs.length cap', .int .i64 (tN ⟨xs, (at' : Int), rst, rng⟩ lo sz tot).at', .int .i64 (tN ⟨xs, (at' : Int), rst, rng⟩ lo sz tot).rst, .int .i64 (tN ⟨xs, (at' : Int), rst, rng⟩ lo sz tot).rng])) := rfl
            generalize pull xs at' (rst - rng / tot * lo) (shI (narI rng lo sz tot)) = q1 at *
            generalize up (narI rng lo sz tot) (shI (narI rng lo sz tot)) = q2 at *
            generalize ((at' + shI (narI rng lo sz tot) : Nat) : Int) = q3 at *
            go_wp2
            exact bodyPost_ret (v := .agg #[.int .i64 0, .slice (some ⟨g', 0, none⟩) xs.length cap', .int .i64 q3, .int .i64 q1, .int .i64 q2]) (by simp [results, Try.results9, go_sem, c0, c1, c2, c3, c4]) rfl ⟨_, Q.out, ow_apart HO6.out HC6.out (by decide) (grown_set5 _ _ _ _ _ _ _), below_set5 HW6.out (by omega) _ _ _ _ _⟩
          · go_simp
            skip
            refine hK.out _ _ (by first | exact ⟨HA4.out.cell 0, HA4.out.cell 1, HA4.out.cell 2, HA4.out.cell 3⟩ | exact ⟨(HA3.out.alloc _).cell 0, (HA3.out.alloc _).cell 1, (HA3.out.alloc _).cell 2, (HA3.out.alloc _).cell 3⟩ | exact ⟨HA3.out.cell 0, HA3.out.cell 1, HA3.out.cell 2, HA3.out.cell 3⟩ | exact ⟨(HA2.out.alloc _).cell 0, (HA2.out.alloc _).cell 1, (HA2.out.alloc _).cell 2, (HA2.out.alloc _).cell 3⟩ | exact ⟨a0, a1, a2, a3⟩) (fun hHeld => ?_)
            clear hK K
            try simp only [List.getElem_toArray, List.getElem_cons_zero, List.getElem_cons_succ, Act.put, List.setIfInBounds_toArray, List.set_cons_zero, List.set_cons_succ]
            refine wpAnyH_ready (rs := [2]) (by kernel_rfl) (by simp) ?_
            refine (AllReadyH.cons rfl (fun K hK => ?_) AllReadyH.nil)
            go_simp
            (refine (l1Copy_calls _ xs _ (Sl.later (w' := W.drew.alloc _) H.out (bmore (drewB HW.out) _)) hlen).mono ?_; rintro e W3 ⟨g', cap', rfl, ho, hb3⟩; have HO := hid (ho.mono (base' := W.heap.size + 1) (by simp)); have HA3 := hid ((Blk.alloc (w := W.drew) HA2.out _).later hb3); have HC3 := hid ((Blk.alloc (w := W.drew) HC2.out _).later hb3); have HB3 := hid ((Blk.alloc (w := W.drew) HB2.out _).later hb3); have HP3 : Hid (Blk W3 W.heap.size #[.slice none 0 0, .int .i64 0, .int .i64 0, .int .i64 0] 25) := (Blk.new W.drew _ _).later hb3; have HW3 := hid (bthen (bmore (drewB HW.out) _) hb3); obtain ⟨p0, p1, p2, p3, pf0, pf1, pf2, pf3⟩ := HP3.out.four)
            refine hK.out _ _ (by first | exact ⟨HA4.out.cell 0, HA4.out.cell 1, HA4.out.cell 2, HA4.out.cell 3⟩ | exact ⟨(HA3.out.alloc _).cell 0, (HA3.out.alloc _).cell 1, (HA3.out.alloc _).cell 2, (HA3.out.alloc _).cell 3⟩ | exact ⟨HA3.out.cell 0, HA3.out.cell 1, HA3.out.cell 2, HA3.out.cell 3⟩ | exact ⟨(HA2.out.alloc _).cell 0, (HA2.out.alloc _).cell 1, (HA2.out.alloc _).cell 2, (HA2.out.alloc _).cell 3⟩ | exact ⟨a0, a1, a2, a3⟩) (fun hHeld => ?_)
            clear hK K
            try dsimp only
            (refine wpAnyH_take (i := 9) (v := ?_) rfl (by kernel_rfl) (by kernel_rfl) (by kernel_rfl) (fun _ _ _ h => h) (Or.inl ⟨by rfl, ?_⟩) hHeld ?_; rotate_left; (intro w hSw; (obtain ⟨s0, s1, s2, s3⟩ := hSw); (go_simp <;> with_reducible rfl)); simp only [List.getElem_toArray, List.getElem_cons_zero, List.getElem_cons_succ, Act.put, List.setIfInBounds_toArray, List.set_cons_zero, List.set_cons_succ])
            refine wpAnyH_ready (rs := [11]) (by kernel_rfl) (by simp) ?_
            refine (AllReadyH.cons rfl (fun K hK => ?_) AllReadyH.nil)
            go_simp
            (first | (have HA4 := hid (Blk.other4 HA3.out (b' := W.heap.size) (by omega) (.slice (some ⟨g', 0, none⟩) xs.length cap') (.int .i64 at') (.int .i64 rst) (.int .i64 rng))) | skip)
            refine hK.out _ _ (by first | exact ⟨HA4.out.cell 0, HA4.out.cell 1, HA4.out.cell 2, HA4.out.cell 3⟩ | exact ⟨(HA3.out.alloc _).cell 0, (HA3.out.alloc _).cell 1, (HA3.out.alloc _).cell 2, (HA3.out.alloc _).cell 3⟩ | exact ⟨HA3.out.cell 0, HA3.out.cell 1, HA3.out.cell 2, HA3.out.cell 3⟩ | exact ⟨(HA2.out.alloc _).cell 0, (HA2.out.alloc _).cell 1, (HA2.out.alloc _).cell 2, (HA2.out.alloc _).cell 3⟩ | exact ⟨a0, a1, a2, a3⟩) (fun hHeld => ?_)
            clear hK K
            try simp only [List.getElem_toArray, List.getElem_cons_zero, List.getElem_cons_succ, Act.put, List.setIfInBounds_toArray, List.set_cons_zero, List.set_cons_succ]
            refine wpAnyH_done (by kernel_rfl) ?_ _
            refine NoPanic.normal ?_
            have HP := hid (Blk.set4 HP3.out (.slice (some ⟨g', 0, none⟩) xs.length cap') (.int .i64 at') (.int .i64 rst) (.int .i64 rng))
            have HO5 : Hid (OwB W.heap.size ((((W3.setCell ⟨W.heap.size, 0, none⟩ (.slice (some ⟨g', 0, none⟩) xs.length cap')).setCell ⟨W.heap.size, 1, none⟩ (.int .i64 at')).setCell ⟨W.heap.size, 2, none⟩ (.int .i64 rst)).setCell ⟨W.heap.size, 3, none⟩ (.int .i64 rng)) (.slice (some ⟨g', 0, none⟩) xs.length cap') xs) := (ow_apart HO.out HP3.out (by decide) (grown_set4 _ _ _ _ _ _)).mono (by omega)
            have HC5 := hid (Blk.other4 HC3.out (b' := W.heap.size) (by omega) (.slice (some ⟨g', 0, none⟩) xs.length cap') (.int .i64 at') (.int .i64 rst) (.int .i64 rng))
            have HB5 := hid (Blk.other4 HB3.out (b' := W.heap.size) (by omega) (.slice (some ⟨g', 0, none⟩) xs.length cap') (.int .i64 at') (.int .i64 rst) (.int .i64 rng))
            have hle : w.heap.size ≤ W.heap.size := by omega
            have HW5 := hid (below_cell (below_cell (below_cell (below_cell HW3.out hle 0 (.slice (some ⟨g', 0, none⟩) xs.length cap')) hle 1 (.int .i64 at')) hle 2 (.int .i64 rst)) hle 3 (.int .i64 rng))
            have hp : w.heap.size + 3 ≤ W.heap.size := hsz3
            clear hHeld HO HA3 HC3 HB3 HW3 ho hb3 HP3 HA4 p0 p1 p2 p3 pf0 pf1 pf2 pf3
            generalize ((((W3.setCell ⟨W.heap.size, 0, none⟩ (.slice (some ⟨g', 0, none⟩) xs.length cap')).setCell ⟨W.heap.size, 1, none⟩ (.int .i64 at')).setCell ⟨W.heap.size, 2, none⟩ (.int .i64 rst)).setCell ⟨W.heap.size, 3, none⟩ (.int .i64 rng)) = W5 at *
            generalize W.heap.size = p at *
            obtain ⟨b0, b1, b2, _⟩ := HB5.out.three
            clear a0 a1 a2 a3
            go_wp2_with fail
            refine (l3Take_calls p _ xs at' rst rng lo sz tot _ _ HP.out (fun w' hg => (ow_apart HO5.out HP.out (by decide) hg).sl) hx h1 h2 h3 h4 h5 h6 (by omega) r1 r2 (by omega)).mono ?_
            rintro e W6 ⟨⟨r, rfl⟩, hB6, hG6⟩
            have HO6 := hid ((ow_apart HO5.out HP.out (by decide) hG6).mono (base' := w.heap.size) (by omega))
            obtain ⟨c0, c1, c2, c3, c4, f0, f1, f2, f3, f4⟩ := (HC5.out.kept hG6 (by intro e; simp at e; omega)).five
            have HW6 := hid (HW5.out.trans (below_of_grown hG6 HW5.out.size (fun j e => by cases e; omega)))
            obtain ⟨d0, d1, d2, d3, _⟩ := hB6.four
            have HC6 := hid (HC5.out.kept hG6 (by intro e; simp at e; omega))
            clear hB6 hG6 HP HO5 HC5 HB5 HW5 b0 b1 b2
            have Q : Hid (Ending.returned (.agg #[.int .i64 0, .slice (some ⟨g', 0, none⟩) xs.length cap', .int .i64 ((at' + shI (narI rng lo sz tot) : Nat) : Int), .int .i64 (pull xs at' (rst - rng / tot * lo) (shI (narI rng lo sz tot))), .int .i64 (up (narI rng lo sz tot) (shI (narI rng lo sz tot)))]) = .returned (.agg #[.int .i64 0, .slice (some ⟨g', 0, none⟩) xs.length cap', .int .i64 (tN ⟨xs, (at' : Int), rst, rng⟩ lo sz tot).at', .int .i64 (tN ⟨xs, (at' : Int), rst, rng⟩ lo sz tot).rst, .int .i64 (tN ⟨xs, (at' : Int), rst, rng⟩ lo sz tot).rng])) := rfl
            generalize pull xs at' (rst - rng / tot * lo) (shI (narI rng lo sz tot)) = q1 at *
            generalize up (narI rng lo sz tot) (shI (narI rng lo sz tot)) = q2 at *
            generalize ((at' + shI (narI rng lo sz tot) : Nat) : Int) = q3 at *
            go_wp2
            exact bodyPost_ret (v := .agg #[.int .i64 0, .slice (some ⟨g', 0, none⟩) xs.length cap', .int .i64 q3, .int .i64 q1, .int .i64 q2]) (by simp [results, Try.results9, go_sem, c0, c1, c2, c3, c4]) rfl ⟨_, Q.out, ow_apart HO6.out HC6.out (by decide) (grown_set5 _ _ _ _ _ _ _), below_set5 HW6.out (by omega) _ _ _ _ _⟩
    · obtain ⟨e1, e2⟩ := tC_slot (d := ⟨xs, at', rst, rng⟩) hd hs
      rw [e1, e2]
      have hs' : (sF lo sz tot != 0) = true := by simpa using hs
      go_enter Try.func9, Try.ntmps9
      go_wp2_with fail
      refine (specDF_calls _ _ _ _ _ _ _ hlen).mono ?_
      rintro e w1 ⟨rfl, hb⟩
      rw [hd]
      obtain ⟨A, B, C, hall, hsz⟩ := boxes3 hb
      clear hb
      obtain ⟨b0, b1, b2, _⟩ := B.three
      go_wp2_with fail
      refine (specSF_calls _ _ _ _).mono ?_
      rintro e w2 ⟨rfl, hb⟩
      have hall2 := hid (bthen hall hb)
      obtain ⟨c0, c1, c2, c3, c4, f0, f1, f2, f3, f4⟩ := (C.later hb).five
      clear hb hall A B C b0 b1 b2
      generalize hc : sF lo sz tot = c at *
      have Hc := hid hc
      clear hc
      go_wp2
      exact bodyPost_ret (v := .agg #[.int .i64 c, .slice none 0 0, .int .i64 0, .int .i64 0, .int .i64 0]) (by simp [results, Try.results9, go_sem, c0, c1, c2, c3, c4]) rfl ⟨_, rfl, nil_ow _ _, below_set5 hall2.out (by omega) _ _ _ _ _⟩
  · obtain ⟨e1, e2⟩ := tC_dec (d := ⟨xs, at', rst, rng⟩) (lo := lo) (sz := sz) (tot := tot) hd
    rw [e1, e2]
    dsimp only
    have hd' : (dF xs.length at' rst rng != 0) = true := by simpa using hd
    go_enter Try.func9, Try.ntmps9
    go_wp2_with fail
    refine (specDF_calls _ _ _ _ _ _ _ hlen).mono ?_
    rintro e w1 ⟨rfl, hb⟩
    obtain ⟨A, B, C, hall, hsz⟩ := boxes3 hb
    obtain ⟨c0, c1, c2, c3, c4, f0, f1, f2, f3, f4⟩ := C.five
    have hall2 := hid hall
    clear hb hall A B C
    generalize hc : dF xs.length at' rst rng = c at *
    have Hc := hid hc
    clear hc
    go_wp2
    exact bodyPost_ret (v := .agg #[.int .i64 c, .slice none 0 0, .int .i64 0, .int .i64 0, .int .i64 0]) (by simp [results, Try.results9, go_sem, c0, c1, c2, c3, c4]) rfl ⟨_, rfl, nil_ow _ _, below_set5 hall2.out (by omega) _ _ _ _ _⟩
end Go.Proofs.Ytdmaeipiikknnaa.TakT
