/- The walk through FnFinest. Condition: the program's contracts of FinestRung and Quantize, wherever nothing that was there before has turned. -/
import Derived.Test.YtfmgdhpadamlkaaLadE
import Derived.Test.YtfmgdhpadamlkaaLadF
import Derived.Test.YtfmgdhpadamlkaaLadQ
namespace Go.Proofs.Ytfmgdhpadamlkaa.LadT
open Go.ChangeShapes Go.WideShapes Go.ChangeAt Go.RowKit Go.Proofs.Ytfmgdhpadamlkaa.Num Go.Proofs.Ytfmgdhpadamlkaa.Sli Go.Proofs.Ytfmgdhpadamlkaa.Div Go.Proofs.Ytfmgdhpadamlkaa.Blk Go.Proofs.Ytfmgdhpadamlkaa.Samp Go.Proofs.Ytfmgdhpadamlkaa.HalM Go.Proofs.Ytfmgdhpadamlkaa.LadM Go.Proofs.Ytfmgdhpadamlkaa.LadS Go.Proofs.Ytfmgdhpadamlkaa.LadF Go.Proofs.Ytfmgdhpadamlkaa.LadE
open Go.Proofs.Ytfmgdhpadamlkaa.LadQ (field0 field1 lwAbs_calls)
attribute [local go_sem] field0 field1

/-- An answer and a list. -/
structure F1 (w : World) (R : Nat) (rc rv : Int) (v : Value) (xs : List Int) (W : World) : Prop where
  r : Blk W R #[.int .i64 rc, .int .i64 rv] 28
  l : Sl .i64 W v xs
  b : Below w.heap.size w W
theorem F1.later {w W W' : World} {R : Nat} {rc rv : Int} {v : Value} {xs : List Int} (k : F1 w R rc rv v xs W) (hb : Below W.heap.size W W') : F1 w R rc rv v xs W' := ⟨k.r.later hb, k.l.later hb, bthen k.b hb⟩
theorem frg_law {l : List Int} {m : Int} (h : frgC l m = 0) : ∃ K : Nat, frgV l m = (K : Int) ∧ K < 48 ∧ l.all coB = true ∧ okR l m K = true ∧ ∀ j, j < K → okR l m j = false := by
  have hl : l.length ≤ 64 := by
    by_cases q : l.length ≤ 64
    · exact q
    · have := (frg_many (m := m) q).1; omega
  have h2 : (l.all coB && moB m) = true := by
    cases q : (l.all coB && moB m)
    · have := (frg_out hl q).1; omega
    · rfl
  have h3 : ¬ fiV l m < 0 := fun q => by have := (frg_none hl h2 q).1; omega
  have h4 := (frg_yes hl h2 h3).2
  rcases fi_cases 48 0 l m with ⟨e, _⟩ | ⟨K, e, _, h5, h6, h7⟩
  · exact absurd (show fiV l m < 0 by unfold fiV; omega) h3
  · refine ⟨K, by rw [← h4]; exact e, by omega, ?_, h6, fun j hj => h7 j (Nat.zero_le _) hj⟩
    cases q : l.all coB
    · rw [q] at h2; cases h2
    · rfl
theorem qz_at {x : Int} {k : Nat} (hx : -16777216 ≤ x ∧ x ≤ 16777216) (hk : k < 48) : qzV x (k : Int) = nearV x (stN k : Int) := by
  have h : qzO x (k : Int) = true := by
    unfold qzO
    rw [show rgB (k : Int) = true from inB_yes (by omega) (by omega), show coB x = true from inB_yes hx.1 hx.2]; rfl
  exact if_pos h
set_option maxRecDepth 100000 in
set_option maxHeartbeats 4000000 in
theorem fnFinest_calls (a : Option Addr) (cap : Nat) (bs : List Int) (w : World) (hsl : Sl .u8 w (.slice a bs.length cap) bs) (hbd : ∀ x ∈ bs, 0 ≤ x ∧ x ≤ 255)
    (hF : ∀ v xs m W, Below w.heap.size w W → Sl .i64 W v xs → xs.length ≤ 1048576 → Calls Try.prog 6 #[v, .int .i64 m] W fun e w' => e = .returned (.agg #[.int .i64 (frgC xs m), .int .i64 (frgV xs m)]) ∧ Below W.heap.size W w')
    (hQ : ∀ c r W, Below w.heap.size w W → Calls Try.prog 9 #[.int .i64 c, .int .i64 r] W fun e w' => e = .returned (.agg #[.int .i64 (qzC c r), .int .i64 (qzV c r)]) ∧ Below W.heap.size W w') :
    Calls Try.prog 3 #[.slice a bs.length cap] w fun e w' => e = .returned (.bool true) ∧ Below w.heap.size w w' := by
  by_cases hbig : 1048576 < bs.length
  · have hb' : (1048576 : Int) < bs.length := by omega
    clear hsl hbd hQ hF
    go_enter Try.func3, Try.ntmps3
    go_wp2
    go_ret
    exact ⟨rfl, Below.refl _ _⟩
  · have hb' : (bs.length : Int) ≤ 1048576 := by omega
    have H1 := hid (drawFinestRung_calls a cap bs w hsl hbd (by omega))
    have HQ := hid hQ
    have HF := hid hF
    clear hsl hbd hQ hF
    go_enter Try.func3, Try.ntmps3
    go_wp2_with (first | (go_at_call 4; go_in) | fail)
    refine H1.out.mono ?_
    rintro e w1 ⟨gl, cl, ys, m, rfl, ho, hl65, hb1⟩
    have HB1 := hid hb1
    have HL1 := hid ho.sl
    have HSf := hid (fun W (h : Sl .i64 W (.slice (some ⟨gl, 0, none⟩) ys.length cl) ys) => specFinestRung_calls _ ys m W h)
    clear hb1 H1 ho
    go_wp2_with fail
    refine (HF.out _ ys m _ HB1.out HL1.out (by omega)).mono ?_
    rintro e w2 ⟨rfl, hb2⟩
    have hbq := bmore hb2 (.cells #[.int .i64 (frgC ys m), .int .i64 (frgV ys m)] 28)
    have HK : Hid (F1 w w2.heap.size (frgC ys m) (frgV ys m) (.slice (some ⟨gl, 0, none⟩) ys.length cl) ys (w2.alloc (.cells #[.int .i64 (frgC ys m), .int .i64 (frgV ys m)] 28))) := ⟨Blk.new w2 _ _, HL1.out.later hbq, bthen HB1.out hbq⟩
    have HE := hid (@frg_law ys m)
    clear hb2 hbq HB1 HL1 HF
    go_wp2_with fail
    generalize w2.alloc (.cells #[.int .i64 (frgC ys m), .int .i64 (frgV ys m)] 28) = w3 at *
    generalize w2.heap.size = R at *
    generalize frgC ys m = rc at *
    generalize frgV ys m = rv at *
    have hKd0 := HK.out.later (Below.refl _ _).drew
    refine wp_region_noPanic ?_
    refine wp_region_held_drew (S := fun W => F1 w R rc rv (.slice (some ⟨gl, 0, none⟩) ys.length cl) ys W) (by kernel_rfl) ?_ (fun hHeld => ?_)
    · first | exact hK2 | exact hHeld | exact hKd0
    (refine wpAnyH_take (i := 0) (v := ?_) rfl (by kernel_rfl) (by kernel_rfl) (by kernel_rfl) (fun _ _ _ h => h) (Or.inl ⟨by rfl, ?_⟩) hHeld ?_; rotate_left; (intro w hSw; (obtain ⟨m0, m1, _⟩ := hSw.r.two; clear hSw); (go_simp <;> with_reducible rfl)); simp only [List.getElem_toArray, List.getElem_cons_zero, Act.put, List.setIfInBounds_toArray, List.set_cons_zero, List.set_cons_succ])
    (refine wpAnyH_take (i := 1) (v := ?_) rfl (by kernel_rfl) (by kernel_rfl) (by kernel_rfl) (fun _ _ _ h => h) (Or.inl ⟨by rfl, ?_⟩) hHeld ?_; rotate_left; (intro w hSw; (obtain ⟨m0, m1, _⟩ := hSw.r.two; clear hSw); (go_simp <;> with_reducible rfl)); simp only [List.getElem_toArray, List.getElem_cons_zero, List.getElem_cons_succ, Act.put, List.setIfInBounds_toArray, List.set_cons_zero, List.set_cons_succ])
    (refine wpAnyH_take (i := 2) (v := ?_) rfl (by kernel_rfl) (by kernel_rfl) (by kernel_rfl) (fun _ _ _ h => h) (Or.inl ⟨by rfl, ?_⟩) hHeld ?_; rotate_left; (intro w hSw; (obtain ⟨m0, m1, _⟩ := hSw.r.two; clear hSw); (go_simp <;> with_reducible rfl)); simp only [List.getElem_toArray, List.getElem_cons_zero, List.getElem_cons_succ, Act.put, List.setIfInBounds_toArray, List.set_cons_zero, List.set_cons_succ])
    (refine wpAnyH_take (i := 3) (v := ?_) rfl (by kernel_rfl) (by kernel_rfl) (by kernel_rfl) (fun _ _ _ h => h) (Or.inl ⟨by rfl, ?_⟩) hHeld ?_; rotate_left; (intro w hSw; (obtain ⟨m0, m1, _⟩ := hSw.r.two; clear hSw); (go_simp <;> with_reducible rfl)); simp only [List.getElem_toArray, List.getElem_cons_zero, List.getElem_cons_succ, Act.put, List.setIfInBounds_toArray, List.set_cons_zero, List.set_cons_succ])
    (refine wpAnyH_ready (rs := [4]) (by kernel_rfl) (by simp) ?_; refine AllReadyH.cons rfl (fun K hK => ?_) AllReadyH.nil; go_simp; (refine (HSf.out _ hHeld.l).mono ?_; rintro e w9 ⟨rfl, hb9⟩; have hK2 := hHeld.later hb9); refine hK.out _ _ ?_ (fun hHeld => ?_); (first | exact hK2 | exact hHeld | exact hKd0); clear hK K; try dsimp only)
    (refine wpAnyH_take (i := 5) (v := ?_) rfl (by kernel_rfl) (by kernel_rfl) (by kernel_rfl) (fun _ _ _ h => h) (Or.inl ⟨by rfl, ?_⟩) hHeld ?_; rotate_left; (intro w hSw; (obtain ⟨m0, m1, _⟩ := hSw.r.two; clear hSw); (go_simp <;> with_reducible rfl)); simp only [List.getElem_toArray, List.getElem_cons_zero, List.getElem_cons_succ, Act.put, List.setIfInBounds_toArray, List.set_cons_zero, List.set_cons_succ])
    (refine wpAnyH_take (i := 6) (v := ?_) rfl (by kernel_rfl) (by kernel_rfl) (by kernel_rfl) (fun _ _ _ h => h) (Or.inl ⟨by rfl, ?_⟩) hHeld ?_; rotate_left; (intro w hSw; (obtain ⟨m0, m1, _⟩ := hSw.r.two; clear hSw); (go_simp <;> with_reducible rfl)); simp only [List.getElem_toArray, List.getElem_cons_zero, List.getElem_cons_succ, Act.put, List.setIfInBounds_toArray, List.set_cons_zero, List.set_cons_succ])
    refine wpAnyH_done (by kernel_rfl) ?_ _
    refine NoPanic.normal ?_
    have HK9 := hid hHeld
    clear hHeld HK hKd0 HSf
    have HBz := hid HK9.out.b
    by_cases hz : rc = 0
    · subst hz
      obtain ⟨K, rfl, hK48, hco, hokK, hokJ⟩ := HE.out rfl
      have HC := hid (fun i => co_get (k := i) hco)
      have HOK := hid hokK
      have HOJ := hid hokJ
      clear HE hco hokK hokJ HBz
      have hKI : (K : Int) ≤ 47 := by omega
      obtain ⟨m0, m1, _⟩ := HK9.out.r.two
      go_wp2_with fail
      go_loopw [6] (fun t wr => ∃ k : Nat, t = .int .i64 (k : Int) ∧ k ≤ K + 1 ∧ Hid (F1 w R 0 (K : Int) (.slice (some ⟨gl, 0, none⟩) ys.length cl) ys wr)) (fun t _ => K + 1 - (intOf t).toNat)
      case atStart => exact ⟨0, rfl, Nat.zero_le _, HK9.out⟩
      case round =>
        obtain ⟨k, rfl, hk, HKr⟩ := hrel
        clear m0 m1
        obtain ⟨m0, m1, _⟩ := HKr.out.r.two
        by_cases hlt : k ≤ K
        · have hk48 : k < 48 := by omega
          have hkI : (k : Int) ≤ (K : Int) := by omega
          have hk47 : (k : Int) ≤ 47 := by omega
          have hst := (st_all k hk48).1
          have HOE := hid (okR_eq ys m k)
          have HQz := hid (fun x (hx : -16777216 ≤ x ∧ x ≤ 16777216) => qz_at (k := k) hx hk48)
          have hsI : 1 ≤ (stN k : Int) := by omega
          have HOk : Hid (okR ys m k = decide ((K : Int) ≤ (k : Int))) := by
            show _ = _
            by_cases q : k = K
            · rw [q, HOK.out, decide_eq_true (by omega)]
            · rw [HOJ.out k (by omega), decide_eq_false (by omega)]
          clear hst HK9 HOK HOJ
          generalize (stN k : Int) = st at *
          generalize okR ys m k = ob at *
          generalize wr = w0 at *
          go_wp2_with fail
          go_loopw [7, 8] (fun o t wq => ∃ (b : Bool) (i : Nat), o = .bool b ∧ t = .int .i64 (i : Int) ∧ i ≤ ys.length ∧ Hid (b = !(ys.take i).all (ok1 m st)) ∧ Hid (F1 w R 0 (K : Int) (.slice (some ⟨gl, 0, none⟩) ys.length cl) ys wq)) (fun _ t _ => ys.length - (intOf t).toNat)
          case atStart => exact ⟨false, 0, rfl, rfl, Nat.zero_le _, rfl, HKr.out⟩
          case round =>
            obtain ⟨b, i, rfl, rfl, hi, hb, HKq⟩ := hrel
            clear m0 m1
            by_cases hin : i < ys.length
            · have hiI : (i : Int) < (ys.length : Int) := by omega
              have HX := hid (all_next (f := ok1 m st) hin)
              cases b
              · have hne : ys ≠ [] := by intro e; rw [e] at hin; simp at hin
                obtain ⟨_, _, hv, hc⟩ := HKq.out.l
                cases hv
                obtain ⟨_, _, e2, hbl, hcell⟩ := hc hne
                cases e2
                have hce := hcell i hin
                rw [Nat.zero_add] at hce
                have hx := HC.out i hin
                clear hc hcell hne
                generalize ys.getD i 0 = x at *
                have HQx := hid (HQ.out x (k : Int) _ HKq.out.b)
                rw [HQz.out x hx] at HQx
                have hnb := near_small (s := st) (by omega) hx
                have HA := hid (fun W => lwAbs_calls (nearV x st) W (by omega) (by omega))
                have hd := abs_small (s := st) (by omega) hx
                clear HC HQz HQ
                generalize qzC x (k : Int) = qc at *
                by_cases hz : absV (nearV x st) ≤ m
                · have HR2 : Hid (false = !(ys.take (i + 1)).all (ok1 m st)) := by
                    show _ = _
                    rw [HX.out, show ok1 m st x = true from decide_eq_true hz, Bool.and_true]; exact hb.out
                  have hz' : ¬ m < absV (nearV x st) := by omega
                  clear HX hb hz
                  generalize absV (nearV x st) = d at *
                  generalize nearV x st = nv at *
                  go_wp2_with fail
                  refine HQx.out.mono ?_
                  rintro e w5 ⟨rfl, hb5⟩
                  have HK5 := hid (HKq.out.later hb5)
                  clear hb5 HQx HKq hce
                  go_wp2_with fail
                  refine (HA.out _).mono ?_
                  rintro e w6 ⟨rfl, rfl⟩
                  go_wp2
                  go_roundw
                  case rel => exact ⟨false, i + 1, by first | rfl | (rw [decide_eq_false (by omega)]), by go_num, by omega, HR2.out, HK5.out⟩
                  case measure => simp [intOf]; omega
                · have HR2 : Hid (true = !(ys.take (i + 1)).all (ok1 m st)) := by
                    show _ = _
                    rw [HX.out, show ok1 m st x = false from decide_eq_false hz, Bool.and_false]; rfl
                  have hz' : m < absV (nearV x st) := by omega
                  clear HX hb hz
                  generalize absV (nearV x st) = d at *
                  generalize nearV x st = nv at *
                  go_wp2_with fail
                  refine HQx.out.mono ?_
                  rintro e w5 ⟨rfl, hb5⟩
                  have HK5 := hid (HKq.out.later hb5)
                  clear hb5 HQx HKq hce
                  go_wp2_with fail
                  refine (HA.out _).mono ?_
                  rintro e w6 ⟨rfl, rfl⟩
                  go_wp2
                  go_roundw
                  case rel => exact ⟨true, i + 1, by first | rfl | (rw [decide_eq_true hz']), by go_num, by omega, HR2.out, HK5.out⟩
                  case measure => simp [intOf]; omega
              · have HR2 : Hid (true = !(ys.take (i + 1)).all (ok1 m st)) := by
                  show _ = _
                  have h0 : (ys.take i).all (ok1 m st) = false := by
                    have := hb.out
                    cases q : (ys.take i).all (ok1 m st)
                    · rfl
                    · rw [q] at this; cases this
                  rw [HX.out, h0, Bool.false_and]; rfl
                clear HX hb HC HQz HQ
                go_wp2
                go_roundw
                case rel => exact ⟨true, i + 1, rfl, by go_num, by omega, HR2.out, HKq.out⟩
                case measure => simp [intOf]; omega
            · obtain rfl : i = ys.length := by omega
              have hbo : Hid (b = decide ((k : Int) < (K : Int))) := by
                show _ = _
                rw [hb.out, List.take_length, ← HOE.out, HOk.out]
                by_cases q : (k : Int) < (K : Int)
                · rw [decide_eq_false (by omega), decide_eq_true q]; rfl
                · rw [decide_eq_true (by omega), decide_eq_false q]; rfl
              obtain ⟨n0, n1, _⟩ := HKq.out.r.two
              clear hb HOE HOk HC HQz HQ
              by_cases q : (k : Int) < (K : Int)
              · obtain rfl : b = true := by rw [hbo.out]; exact decide_eq_true q
                go_wp2
                go_roundw
                case rel => exact ⟨k + 1, by go_num, by omega, HKq.out⟩
                case measure => simp [intOf]; omega
              · obtain rfl : b = false := by rw [hbo.out]; exact decide_eq_false q
                go_wp2
                go_roundw
                case rel => exact ⟨k + 1, by go_num, by omega, HKq.out⟩
                case measure => simp [intOf]; omega
        · have hkI : ¬ (k : Int) ≤ (K : Int) := by omega
          have HBy := hid HKr.out.b
          clear HKr HK9 HC HOK HOJ HQ
          go_wp2
          go_ret
          exact ⟨rfl, HBy.out⟩
    · obtain ⟨m0, m1, _⟩ := HK9.out.r.two
      clear HE HQ HK9
      go_wp2
      go_ret
      exact ⟨rfl, HBz.out⟩
end Go.Proofs.Ytfmgdhpadamlkaa.LadT
