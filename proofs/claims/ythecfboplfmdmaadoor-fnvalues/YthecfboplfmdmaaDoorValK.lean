/- Values in the program: ClassSlot and SlotsOf. -/
import Derived.Test.YthecfboplfmdmaaDoorValJ
import Derived.Test.YthecfboplfmdmaaDoorSlA
namespace Go.Proofs.YthecfboplfmdmaaDoor.ValK
open Go.ChangeShapes Go.WideShapes Go.ChangeAt Go.RowKit Go.Proofs.YthecfboplfmdmaaDoor.Num Go.Proofs.YthecfboplfmdmaaDoor.Sli Go.Proofs.YthecfboplfmdmaaDoor.App Go.Proofs.YthecfboplfmdmaaDoor.Div Go.Proofs.YthecfboplfmdmaaDoor.Dec Go.Proofs.YthecfboplfmdmaaDoor.Blk Go.Proofs.YthecfboplfmdmaaDoor.RangeM Go.Proofs.YthecfboplfmdmaaDoor.SlS Go.Proofs.YthecfboplfmdmaaDoor.ExL Go.Proofs.YthecfboplfmdmaaDoor.SlA Go.Proofs.YthecfboplfmdmaaDoor.ValZ Go.Proofs.YthecfboplfmdmaaDoor.ValI Go.Proofs.YthecfboplfmdmaaDoor.ValJ

/-- Behind an answer that is stored into block R, the first of the call's own. -/
theorem owS_set2 {R : Nat} {w : World} {v : Value} {ls : List Sl3} (h : OwS (R + 1) w v ls) (x y : Value) : OwS R ((w.setCell ⟨R, 0, none⟩ x).setCell ⟨R, 1, none⟩ y) v ls :=
  OwS.mono (OwS.kept (OwS.kept h (grown_set w R 0 x) (fun j e => by cases e; omega)) (grown_set _ R 1 y) (fun j e => by cases e; omega)) (by omega)
theorem owS_obj {base g n cap : Nat} {w : World} {ls : List Sl3} (h : OwS base w (.slice (some ⟨g, 0, none⟩) n cap) ls) : ∃ cur, w.heap[g]? = some (.cells cur 75 (0, 0)) := by
  rcases h.2 with ⟨h0, _⟩ | ⟨g', c', cur, h0, hb, hg, _⟩
  · cases h0
  · cases h0; exact ⟨cur, hg⟩
/-- A list of another type is kept where a block is turned. -/
theorem ow_far {k : IntKind} {e base g : Nat} {t : TypeId} {w w' : World} {v : Value} {xs : List Int} {cur : Array Value} (h : Ow k e base w v xs) (hB : w.heap[g]? = some (.cells cur t (0, 0))) (hne : t ≠ e) (hg : w.grownBy w' (some g)) : Ow k e base w' v xs := by
  have h' : w.ownsRow base e 1 v xs.length (xs.map (Value.int k)) := h
  rcases h.2 with ⟨rfl, _⟩ | ⟨b, cap, cu, rfl, _, hb, _⟩
  · exact h'.kept hg (Or.inl rfl)
  · refine h'.kept hg (Or.inr ?_)
    intro e1
    have e2 : b = g := by simpa [Value.ownBlock] using e1
    subst e2
    rw [hB] at hb
    cases hb
    exact hne rfl
/-- The slots of pieces, one behind the other. -/
def rs (z : Nat) : List Nat → List Sl3
  | [] => []
  | k :: t => pSl (z / 2 ^ t.sum % 2 ^ k) k :: rs z t
theorem rs_len (z : Nat) (ps : List Nat) : (rs z ps).length = ps.length := by
  induction ps with
  | nil => rfl
  | cons k t ih => simp [rs, ih]
theorem rs_get (z : Nat) (ps : List Nat) (j : Nat) (hj : j < ps.length) : (rs z ps).getD j (0, 0, 0) = pSl (z / 2 ^ (ps.drop (j + 1)).sum % 2 ^ (ps.getD j 0)) (ps.getD j 0) := by
  induction ps generalizing j with
  | nil => simp at hj
  | cons k t ih =>
    cases j with
    | zero => simp [rs]
    | succ j => simp only [rs, List.getD_cons_succ, List.drop_succ_cons]; exact ih j (by simpa using hj)
theorem rs_take (z : Nat) (ps : List Nat) (j : Nat) (hj : j < ps.length) : (rs z ps).take (j + 1) = (rs z ps).take j ++ [(rs z ps).getD j (0, 0, 0)] := by
  have hl : j < (rs z ps).length := by rw [rs_len]; exact hj
  rw [List.take_add_one, List.getElem?_eq_getElem hl, List.getD_eq_getElem?_getD, List.getElem?_eq_getElem hl]
  rfl
theorem rSl_rs (z c : Nat) : rSl z c = rs z (pcs c) := by
  unfold rSl pcs
  split
  · rfl
  · split
    · simp [rs]
    · simp [rs]
theorem sum_drop (ps : List Nat) (j : Nat) (hj : j < ps.length) : (ps.drop j).sum = ps.getD j 0 + (ps.drop (j + 1)).sum := by
  rw [List.drop_eq_getElem_cons hj, List.sum_cons, List.getD_eq_getElem?_getD, List.getElem?_eq_getElem hj]
  rfl
theorem pcs_facts {c : Nat} (h : c < 18) : (pcs c).length ≤ 2 ∧ (pcs c).sum = c - 1 ∧ ∀ j, j < (pcs c).length → 1 ≤ (pcs c).getD j 0 ∧ (pcs c).getD j 0 ≤ 8 ∧ (((pcs c).drop (j + 1)).sum = 0 ∨ ((pcs c).drop (j + 1)).sum = 8) := by
  unfold pcs
  split
  · refine ⟨by simp, by simp; omega, fun j hj => by simp at hj⟩
  · split
    · refine ⟨by simp, by simp; omega, fun j hj => ?_⟩
      have : j = 0 ∨ j = 1 := by simp at hj; omega
      rcases this with rfl | rfl <;> simp <;> omega
    · refine ⟨by simp, by simp, fun j hj => ?_⟩
      have : j = 0 := by simp at hj; omega
      subst this
      simp
      omega
theorem pcI_get (c j : Nat) (hj : j < (pcs c).length) : (pcI c).getD j 0 = ((pcs c).getD j 0 : Int) := by
  unfold pcI
  rw [List.getD_eq_getElem?_getD, List.getElem?_map, List.getElem?_eq_getElem hj, List.getD_eq_getElem?_getD, List.getElem?_eq_getElem hj]
  rfl
theorem pcI_len (c : Nat) : (pcI c).length = (pcs c).length := by unfold pcI; rw [List.length_map]
/-- What SlotsOf has made so far. -/
structure SK (w : World) (Z : Nat) (z c : Nat) (vp : Value) (j g cap n : Nat) (W : World) : Prop where
  r : Blk W w.heap.size #[.int .i64 0, .slice none 0 0] 54
  q : Blk W Z #[.int .i64 0, .int .i64 (z : Int)] 70
  p : Ow .i64 2 0 W vp (pcI c)
  o : OwS (w.heap.size + 1) W (.slice (some ⟨g, 0, none⟩) n cap) (cSl c :: (rs z (pcs c)).take j)
  n : n = (cSl c :: (rs z (pcs c)).take j).length
  l : Below w.heap.size w W
theorem SK.later {w W W' : World} {Z z c : Nat} {vp : Value} {j g cap n : Nat} (h : SK w Z z c vp j g cap n W) (hb : Below W.heap.size W W') : SK w Z z c vp j g cap n W' :=
  ⟨h.r.later hb, h.q.later hb, h.p.later hb, OwS.later h.o hb, h.n, bthen h.l hb⟩
set_option maxRecDepth 100000 in
set_option maxHeartbeats 2000000 in
theorem implSlots_calls (v : Int) (w : World) :
    Calls Tryd.prog 32 #[.int .i64 v] w fun e w' => ∃ u, e = .returned (.agg #[.int .i64 (sC v), u]) ∧ OwS w.heap.size w' u (sL v) ∧ Below w.heap.size w w' := by
  have HZg := hid (implZig_calls v (w.alloc (.cells #[.int .i64 0, .slice none 0 0] 54)))
  rw [World.size_alloc] at HZg
  have HN := hid (Blk.new w #[.int .i64 0, .slice none 0 0] 54)
  have HB := hid (bmore (Below.refl w.heap.size w) (.cells #[.int .i64 0, .slice none 0 0] 54))
  cases h1 : inB (-65535) 65535 v
  · have M1 : Hid (sC v = 3) := by show _ = _; unfold sC; rw [if_neg (by rw [h1]; decide)]
    have M2 : Hid (sL v = []) := by show _ = _; unfold sL; rw [if_neg (by rw [h1]; decide)]
    rw [← (z_no h1).1, ← (z_no h1).2] at HZg
    clear h1
    go_enter Tryd.func32, Tryd.ntmps32
    go_wp2_with fail
    refine HZg.out.mono ?_
    rintro e w1 ⟨rfl, hb⟩
    have hsz : w.heap.size + 1 ≤ w1.heap.size := by simpa using hb.size
    have HZ := hid ((HN.out.below hb (by omega)).alloc (.cells #[.int .i64 3, .int .i64 0] 70))
    obtain ⟨z0, z1, f0, f1⟩ := HZ.out.two
    have HW := hid (below_set2 (bmore (HB.out.trans (hb.mono (by omega))) (.cells #[.int .i64 3, .int .i64 0] 70)) (.int .i64 3) (.slice none 0 0))
    have HE := hid ((HZ.out.set 0 (.int .i64 3)).set 1 (.slice none 0 0))
    have hne : w.heap.size ≠ w1.heap.size := by omega
    clear hb HZg
    go_wp2
    obtain ⟨y0, y1, _⟩ := HE.out.two
    exact bodyPost_ret (v := .agg #[.int .i64 3, .slice none 0 0]) (by simp [results, Tryd.results32, go_sem, y0, y1]) rfl ⟨_, by rw [M1.out], by rw [M2.out]; exact owS_nil _ _, HW.out⟩
  · have M1 : Hid (sC v = 0) := by show _ = _; unfold sC; rw [if_pos h1]
    have M2 : Hid (sL v = zSl (zg v)) := by show _ = _; unfold sL; rw [if_pos h1]
    have e1 : zC v = 0 := by unfold zC; rw [if_pos h1]
    have e2 : zO v = (zg v : Int) := by unfold zO; rw [if_pos h1]
    rw [e1, e2] at HZg
    have hz := zg_le (show isV v from of_inB h1)
    clear h1 e1 e2
    generalize zg v = z at *
    have hc : cl z < 18 := by have := cl_le (show z ≤ 131071 by omega); omega
    have HC := hid (fun W => classOf_calls z W (by omega))
    have M3 : Hid (zSl z = cSl (cl z) :: rs z (pcs (cl z))) := by show _ = _; unfold zSl; rw [rSl_rs]
    have Hzz := hid hz
    clear hz
    generalize cl z = c at *
    have HR := hid (fun W => restDigits_calls c W hc)
    have HP := hid (fun W => pieces_calls c W hc)
    have HS := hid (fun W => slot_calls c W hc)
    go_enter Tryd.func32, Tryd.ntmps32
    go_wp2_with fail
    refine HZg.out.mono ?_
    rintro e w1 ⟨rfl, hb⟩
    have hsz : w.heap.size + 1 ≤ w1.heap.size := by simpa using hb.size
    have HZ := hid ((HN.out.below hb (by omega)).alloc (.cells #[.int .i64 0, .int .i64 (z : Int)] 70))
    have HQ := hid (Blk.new w1 #[.int .i64 0, .int .i64 (z : Int)] 70)
    have HW := hid (bmore (HB.out.trans (hb.mono (by omega))) (.cells #[.int .i64 0, .int .i64 (z : Int)] 70))
    clear hb HZg HN HB
    go_wp2_with fail
    refine (HC.out _).mono ?_
    rintro e w2 ⟨rfl, rfl⟩
    go_wp2_with fail
    refine (HS.out _).mono ?_
    rintro e w2 ⟨rfl, hb2⟩
    have hsz2 : w1.heap.size + 1 ≤ w2.heap.size := by simpa using hb2.size
    have HZ2 := hid ((HZ.out.later hb2).alloc (.cells #[.int .i64 (lwc c : Int), .int .i64 (shr c : Int), .int .i64 256] 75))
    have HQ2 := hid ((HQ.out.later hb2).alloc (.cells #[.int .i64 (lwc c : Int), .int .i64 (shr c : Int), .int .i64 256] 75))
    have HW2 := hid (bmore (bthen HW.out hb2) (.cells #[.int .i64 (lwc c : Int), .int .i64 (shr c : Int), .int .i64 256] 75))
    have HO2 := hid (owS_lit (w.heap.size + 1) w2 (lwc c : Int) (shr c : Int) 256 (by omega))
    clear hb2 HC HS HZ HQ HW
    go_wp2_with fail
    refine (HR.out _).mono ?_
    rintro e w3 ⟨rfl, rfl⟩
    go_wp2_with fail
    refine (HP.out _).mono ?_
    rintro e w3 ⟨vp, rfl, ho3, hb3⟩
    have HK : Hid (SK w w1.heap.size z c vp 0 w2.heap.size 1 1 w3) := ⟨HZ2.out.later hb3, HQ2.out.later hb3, ho3.mono (Nat.zero_le _), OwS.later HO2.out hb3, rfl, bthen HW2.out hb3⟩
    obtain ⟨ap, cp, rfl, _⟩ := ho3.sl
    rw [pcI_len] at HK
    rw [pcI_len]
    generalize w2.heap.size = g2 at *
    generalize w1.heap.size = Z at *
    have Hs0 : Hid (((pcs c).drop 0).sum = rDg c) := by show _ = _; unfold rDg; exact (pcs_facts hc).2.1
    have HF := hid (pcs_facts hc).2.2
    have hpl := (pcs_facts hc).1
    clear ho3 hb3 HR HP HZ2 HQ2 HW2 HO2
    go_wp2_with fail
    go_loopw [5, 6, 28] (fun o l i wr => ∃ (j g cap n : Nat), o = .slice (some ⟨g, 0, none⟩) n cap ∧ l = .int .i64 ((((pcs c).drop j).sum : Nat) : Int) ∧ i = .int .i64 (j : Int) ∧ j ≤ (pcs c).length ∧ Hid (SK w Z z c (.slice ap (pcs c).length cp) j g cap n wr)) (fun _ _ i _ => (pcs c).length - (intOf i).toNat)
    case atStart => exact ⟨0, g2, 1, 1, rfl, by rw [Hs0.out], rfl, Nat.zero_le _, HK.out⟩
    case round =>
      clear HK Hs0
      obtain ⟨j, g, cap, n, rfl, rfl, rfl, hj, hK⟩ := hrel
      by_cases hlt : j < (pcs c).length
      · obtain ⟨hk1, hk8, hl8⟩ := HF.out j hlt
        have hgI := pcI_get c j hlt
        have hlen := pcI_len c
        obtain ⟨a', cap', hv, hcs⟩ := hK.out.p.sl
        rw [hlen] at hv
        cases hv
        obtain ⟨b, off, rfl, hbl, hcell⟩ := hcs (by intro e; rw [e] at hlen; simp at hlen; omega)
        have hce := hcell j (by omega)
        rw [hgI] at hce
        clear hcs hcell hgI hlen
        have hsd := sum_drop (pcs c) j hlt
        have Hrt := hid (rs_take z (pcs c) j hlt)
        have Hrg := hid (rs_get z (pcs c) j hlt)
        obtain ⟨q0, q1, _⟩ := hK.out.q.two
        have hjn : (j : Int) < ((pcs c).length : Int) := by omega
        have HS1 : Hid ((((pcs c).drop (j + 1)).sum : Nat) = ((pcs c).drop (j + 1)).sum) := rfl
        generalize hk : (pcs c).getD j 0 = k at *
        generalize hL : ((pcs c).drop (j + 1)).sum = L at *
        have HL := hid hL
        clear hL hk HS1
        have hkI : 1 ≤ (k : Int) ∧ (k : Int) ≤ 8 := by omega
        have hsI : ((((pcs c).drop j).sum : Nat) : Int) = (k : Int) + (L : Int) := by omega
        rw [hsI]
        have hLI : (k : Int) + (L : Int) - (k : Int) = (L : Int) := by omega
        have HPS := hid (fun W => pieceSlot_calls k (z / 2 ^ L) W hk8 (Nat.le_trans (Nat.div_le_self _ _) (by have := Hzz.out; omega)))
        have hzI : 0 ≤ (z : Int) ∧ (z : Int) ≤ 131070 := by have := Hzz.out; omega
        obtain ⟨hz0, hz1⟩ := hzI
        have hsh : (L = 0 ∧ ((z / 2 ^ L : Nat) : Int) = (z : Int)) ∨ (L = 8 ∧ ((z / 2 ^ L : Nat) : Int) = (z : Int) / 256) := by
          rcases hl8 with rfl | rfl
          · left; exact ⟨rfl, by simp⟩
          · right; exact ⟨rfl, by simp⟩
        clear hl8 hsd hsI
        rcases hsh with ⟨rfl, hsh⟩ | ⟨rfl, hsh⟩
        all_goals
          rw [hsh] at HPS
          generalize hA : ((z / 2 ^ _ % 2 ^ k : Nat) : Int) = A at *
          generalize hT : ((2 ^ k : Nat) : Int) = T at *
          have Hp : Hid ((rs z (pcs c)).getD j (0, 0, 0) = (A, 1, T)) := by show _ = _; rw [Hrg.out]; unfold pSl; rw [hA, hT]
          clear hA hT hsh Hrg
          go_wp2_with fail
          refine (HPS.out _).mono ?_
          rintro e w4 ⟨rfl, hb4⟩
          have HK4 := hid ((hK.out.later hb4).later (bmore (Below.refl _ _) (.cells #[.int .i64 A, .int .i64 1, .int .i64 T] 75)))
          have hln : (cSl c :: (rs z (pcs c)).take j).length ≤ 100 := by simp; omega
          have hsz4 : w.heap.size + 1 ≤ w4.heap.size := by have := HK4.out.r.lt; have := (hK.out.later hb4).r.lt; omega
          clear hb4 HPS hK
          go_wp2_with (at_builtin; refine wpList_append_slots _ rfl _ _ rfl (w.heap.size + 1) (.slice (some ⟨g, 0, none⟩) n cap) (cSl c :: (rs z (pcs c)).take j) rfl HK4.out.o _ [(A, 1, T)] rfl (OwS.sls (owS_lit 0 w4 A 1 T (Nat.zero_le _))) (by simp) ?c1 ?c2 ?_)
          case c1 => simp only [List.length_singleton]; omega
          case c2 => simp; omega
          intro g5 cap5 n5 w5 hn5 ho5 hg5
          have HK5 : Hid (SK w Z z c (.slice (some ⟨b, off, none⟩) (pcs c).length cp) (j + 1) g5 cap5 n5 w5) := by
            have h := HK4.out
            have hgb := OwS.lt h.o g rfl
            obtain ⟨cur, hgo⟩ := owS_obj h.o
            have e5 : cSl c :: ((rs z (pcs c)).take j ++ [(A, 1, T)]) = cSl c :: (rs z (pcs c)).take (j + 1) := by rw [Hrt.out, Hp.out]
            have hn6 : n5 = (cSl c :: (rs z (pcs c)).take (j + 1)).length := by
              rw [List.length_cons, List.length_take, rs_len]
              rw [rs_len] at hn5
              omega
            rw [e5] at ho5
            refine ⟨h.r.kept hg5 (fun e => by have : g = w.heap.size := Option.some.inj e; omega), h.q.kept hg5 (fun e => ?_), ow_far h.p hgo (by decide) hg5, ho5, hn6, h.l.trans (below_of_grown hg5 (by simp; omega) (fun i e => by have : g = i := Option.some.inj e; omega))⟩
            have e6 : g = Z := Option.some.inj e
            subst e6
            have hq := h.q
            unfold Blk at hq
            rw [hgo] at hq
            cases hq
          clear hn5 ho5 hg5 HK4
          go_wp2
          go_roundw
          case rel => exact ⟨j + 1, g5, cap5, n5, rfl, (by rw [HL.out]; congr 1 <;> omega), by go_num, by omega, HK5.out⟩
          case measure => simp [intOf]; omega
      · obtain rfl : j = (pcs c).length := by omega
        have hsz : w.heap.size + 1 ≤ wr.heap.size := hK.out.r.lt
        obtain ⟨z0, z1, f0, f1⟩ := hK.out.r.two
        have HO := hid (owS_set2 hK.out.o (.int .i64 0) (.slice (some ⟨g, 0, none⟩) n cap))
        have HW := hid (below_set2 hK.out.l (.int .i64 0) (.slice (some ⟨g, 0, none⟩) n cap))
        have HE := hid ((hK.out.r.set 0 (.int .i64 0)).set 1 (.slice (some ⟨g, 0, none⟩) n cap))
        have M4 : Hid (cSl c :: (rs z (pcs c)).take (pcs c).length = cSl c :: rs z (pcs c)) := by show _ = _; rw [List.take_of_length_le (by rw [rs_len]; omega)]
        rw [M4.out] at HO
        clear hK
        generalize (pcs c).length = m at *
        generalize (((pcs c).drop m).sum : Nat) = y at *
        go_wp2
        obtain ⟨y0, y1, _⟩ := HE.out.two
        exact bodyPost_ret (v := .agg #[.int .i64 0, .slice (some ⟨g, 0, none⟩) n cap]) (by simp [results, Tryd.results32, go_sem, y0, y1]) rfl ⟨_, by rw [M1.out], by rw [M2.out, M3.out]; exact HO.out, HW.out⟩
end Go.Proofs.YthecfboplfmdmaaDoor.ValK
