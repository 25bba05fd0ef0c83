/- The walk through FnOwners. Condition: the program's contracts of OwnerOf, GainRung, PulsesFor, wherever nothing that was there before has turned. -/
import Derived.Test.YtnmjmknhlpmkoaaBanS
import Derived.Test.YtnmjmknhlpmkoaaBanE
import Derived.Deep.RegionHeld3
import Derived.Deep.DrawnRows
import Derived.Deep.DeepCutAuto
import Derived.Laws.StructEq
namespace Go.Proofs.Ytnmjmknhlpmkoaa.BanO
open Go.ChangeShapes Go.WideShapes Go.ChangeAt Go.RowKit Go.Proofs.Ytnmjmknhlpmkoaa.Num Go.Proofs.Ytnmjmknhlpmkoaa.Sli Go.Proofs.Ytnmjmknhlpmkoaa.Div Go.Proofs.Ytnmjmknhlpmkoaa.Blk Go.Proofs.Ytnmjmknhlpmkoaa.LadM Go.Proofs.Ytnmjmknhlpmkoaa.BanM Go.Proofs.Ytnmjmknhlpmkoaa.BanS Go.Proofs.Ytnmjmknhlpmkoaa.BanE

theorem fieldI1 (c a : Value) (w : World) : (Instr.field 27 (.agg #[c, a]) 1).run Try.prog w = .ok a w := by kernel_rfl
theorem neqI (c v : Int) (W : World) : (binOp .neq 27 (.agg #[.int .i64 c, .int .i64 v]) (.agg #[.int .i64 c, .int .i64 v])).run Try.prog W = .ok (.bool false) W := by
  simp [go_sem]
attribute [local go_sem] fieldI1 neqI
theorem gr_law {r m : Int} (h : grC r m = 0) : r ≤ grV r m ∧ grV r m ≤ 47 ∧ 1 ≤ pqV m ∧ pqV m ≤ 8 := by
  unfold grC at h
  split at h
  · rename_i ho
    have hm : mkB m = true := by unfold grO at ho; simp at ho; exact ho.2
    have hr : rgB r = true := by unfold grO at ho; simp at ho; exact ho.1
    have h1 := of_inB hm
    have h2 := of_inB hr
    have e1 : grV r m = min 47 (r + 2 * m) := if_pos ho
    have e2 : pqV m = 8 - 2 * m := if_pos hm
    rw [e1, e2]
    omega
  · omega
theorem ow_law {n b : Int} (h : owC n b = 0) : owC n (1 - b) = 0 ∧ owV n b = 1 - owV n (1 - b) ∧ (n ≠ 0 → owV n b = 1 - owV (n - 1) b) ∧ 0 ≤ n ∧ n ≤ 9999 ∧ 0 ≤ b ∧ b ≤ 1 ∧ 0 ≤ owV n (1 - b) ∧ owV n (1 - b) ≤ 1 ∧ 0 ≤ owV (n - 1) b ∧ owV (n - 1) b ≤ 1 := by
  unfold owC at h
  split at h
  · rename_i ho
    have h1 : inB 0 9999 n = true := by unfold owO at ho; simp at ho; exact ho.1
    have h2 : inB 0 1 b = true := by unfold owO at ho; simp at ho; exact ho.2
    have b1 := of_inB h1
    have b2 := of_inB h2
    have h3 : inB 0 1 (1 - b) = true := inB_yes (by omega) (by omega)
    have o2 : owO n (1 - b) = true := by unfold owO; rw [h1, h3]; rfl
    have e1 : owV n b = (n + b) % 2 := if_pos ho
    have e2 : owV n (1 - b) = (n + (1 - b)) % 2 := if_pos o2
    have e3 : n ≠ 0 → owV (n - 1) b = (n - 1 + b) % 2 := fun hn => if_pos (by unfold owO; rw [show inB 0 9999 (n - 1) = true from inB_yes (by omega) (by omega), h2]; rfl)
    have e4 : 0 ≤ owV (n - 1) b ∧ owV (n - 1) b ≤ 1 := by unfold owV; split <;> omega
    refine ⟨if_pos o2, ?_, ?_, b1.1, b1.2, b2.1, b2.2, ?_, ?_, e4.1, e4.2⟩
    · rw [e1, e2]; omega
    · intro hn; rw [e1, e3 hn]; omega
    · rw [e2]; omega
    · rw [e2]; omega
  · omega
/-- Three answers. -/
structure OW (w : World) (A B C : Nat) (oc ov gc gv pc pv : Int) (W : World) : Prop where
  o : Blk W A #[.int .i64 oc, .int .i64 ov] 27
  g : Blk W B #[.int .i64 gc, .int .i64 gv] 27
  p : Blk W C #[.int .i64 pc, .int .i64 pv] 27
  b : Below w.heap.size w W
theorem OW.later {w W W' : World} {A B C : Nat} {oc ov gc gv pc pv : Int} (k : OW w A B C oc ov gc gv pc pv W) (hb : Below W.heap.size W W') : OW w A B C oc ov gc gv pc pv W' := ⟨k.o.later hb, k.g.later hb, k.p.later hb, bthen k.b hb⟩
set_option maxRecDepth 100000 in
set_option maxHeartbeats 8000000 in
theorem fnOwners_calls (a0 : Option Addr) (cap : Nat) (bs : List Int) (w : World) (hsl : Sl .u8 w (.slice a0 bs.length cap) bs) (hbd : ∀ x ∈ bs, 0 ≤ x ∧ x ≤ 255)
    (hO : ∀ a b W, Below w.heap.size w W → Calls Try.prog 9 #[.int .i64 a, .int .i64 b] W fun e w' => e = .returned (.agg #[.int .i64 (owC a b), .int .i64 (owV a b)]) ∧ Below W.heap.size W w')
    (hG : ∀ r m W, Below w.heap.size w W → Calls Try.prog 11 #[.int .i64 r, .int .i64 m] W fun e w' => e = .returned (.agg #[.int .i64 (grC r m), .int .i64 (grV r m)]) ∧ Below W.heap.size W w')
    (hP : ∀ m W, Below w.heap.size w W → Calls Try.prog 12 #[.int .i64 m] W fun e w' => e = .returned (.agg #[.int .i64 (pqC m), .int .i64 (pqV m)]) ∧ Below W.heap.size W w') :
    Calls Try.prog 3 #[.slice a0 bs.length cap] w fun e w' => e = .returned (.bool true) ∧ Below w.heap.size w w' := by
  by_cases hbig : 1048576 < bs.length
  · have hb' : (1048576 : Int) < bs.length := by omega
    clear hsl hbd hO hG hP
    go_enter Try.func3, Try.ntmps3
    go_wp2
    go_ret
    exact ⟨rfl, Below.refl _ _⟩
  · have hb' : (bs.length : Int) ≤ 1048576 := by omega
    have H1 := hid (drawOwnerOf_calls a0 cap bs w hsl hbd (by omega))
    have H2 := hid (fun W (hb : Below w.heap.size w W) => drawGainRung_calls a0 cap bs W (hsl.later hb) hbd (by omega))
    have HO := hid hO
    have HG := hid hG
    have HP := hid hP
    clear hsl hbd hO hG hP
    go_enter Try.func3, Try.ntmps3
    go_wp2_with (first | (go_at_call 7; go_in) | fail)
    refine H1.out.mono ?_
    rintro e w1 ⟨n, b, rfl, hb1⟩
    have HB1 := hid hb1
    clear hb1 H1
    go_wp2_with fail
    refine (HO.out n b _ HB1.out).mono ?_
    rintro e w2 ⟨rfl, hb2⟩
    have hbq := bmore hb2 (.cells #[.int .i64 (owC n b), .int .i64 (owV n b)] 27)
    have HB2 := hid (bthen HB1.out hbq)
    have HO2 := hid (Blk.new w2 #[.int .i64 (owC n b), .int .i64 (owV n b)] 27)
    clear hb2 hbq HB1
    go_wp2_with fail
    refine (H2.out _ HB2.out).mono ?_
    rintro e w3 ⟨r, m, rfl, hb3⟩
    have HB3 := hid (bthen HB2.out hb3)
    have HO3 := hid (HO2.out.later hb3)
    clear hb3 HB2 HO2 H2
    go_wp2_with fail
    refine (HG.out r m _ HB3.out).mono ?_
    rintro e w4 ⟨rfl, hb4⟩
    have hbq := bmore hb4 (.cells #[.int .i64 (grC r m), .int .i64 (grV r m)] 27)
    have HB4 := hid (bthen HB3.out hbq)
    have HO4 := hid (HO3.out.later hbq)
    have HG4 := hid (Blk.new w4 #[.int .i64 (grC r m), .int .i64 (grV r m)] 27)
    clear hb4 hbq HB3 HO3 HG
    go_wp2_with fail
    refine (HP.out m _ HB4.out).mono ?_
    rintro e w5 ⟨rfl, hb5⟩
    have hbq := bmore hb5 (.cells #[.int .i64 (pqC m), .int .i64 (pqV m)] 27)
    have HK : Hid (OW w w2.heap.size w4.heap.size w5.heap.size (owC n b) (owV n b) (grC r m) (grV r m) (pqC m) (pqV m) (w5.alloc (.cells #[.int .i64 (pqC m), .int .i64 (pqV m)] 27))) := ⟨HO4.out.later hbq, HG4.out.later hbq, Blk.new w5 _ _, bthen HB4.out hbq⟩
    clear hb5 hbq HB4 HO4 HG4 HP
    go_wp2_with fail
    generalize w5.alloc (.cells #[.int .i64 (pqC m), .int .i64 (pqV m)] 27) = w6 at *
    generalize w2.heap.size = A at *
    generalize w4.heap.size = B at *
    generalize w5.heap.size = C at *
    have HSo := hid (fun W => specOwnerOf_calls n b W)
    have HSg := hid (fun W => specGainRung_calls r m W)
    have HSp := hid (fun W => specPulsesFor_calls m W)
    have HLg := hid (@gr_law r m)
    have HLo := hid (@ow_law n b)
    have HOa := hid (fun W (hb : Below w.heap.size w W) => HO.out n (1 - b) W hb)
    have HOb := hid (fun W (hb : Below w.heap.size w W) => HO.out (n - 1) b W hb)
    clear HO
    generalize owC n b = oc at *
    generalize owV n b = ov at *
    generalize owC n (1 - b) = xc at *
    generalize owV n (1 - b) = xv at *
    generalize owC (n - 1) b = yc at *
    generalize owV (n - 1) b = yv at *
    generalize grC r m = gc at *
    generalize grV r m = gv at *
    generalize pqC m = pc at *
    generalize pqV m = pv at *
    have hKd0 := HK.out.later (Below.refl _ _).drew
    refine wp_region_noPanic ?_
    refine wp_region_held_drew (S := fun W => OW w A B C oc ov gc gv pc pv W) (by kernel_rfl) ?_ (fun hHeld => ?_)
    · first | exact hK3 | exact hK2 | exact hK1 | exact hHeld | exact hKd0
    (refine wpAnyH_take (i := 0) (v := ?_) rfl (by kernel_rfl) (by kernel_rfl) (by kernel_rfl) (fun _ _ _ h => h) (Or.inl ⟨by rfl, ?_⟩) hHeld ?_; rotate_left; (intro w hSw; (obtain ⟨o0, o1, _⟩ := hSw.o.two; obtain ⟨g0, g1, _⟩ := hSw.g.two; obtain ⟨p0, p1, _⟩ := hSw.p.two; clear hSw); (go_simp <;> with_reducible rfl)); simp only [List.getElem_toArray, List.getElem_cons_zero, Act.put, List.setIfInBounds_toArray, List.set_cons_zero, List.set_cons_succ])
    (refine wpAnyH_take (i := 1) (v := ?_) rfl (by kernel_rfl) (by kernel_rfl) (by kernel_rfl) (fun _ _ _ h => h) (Or.inl ⟨by rfl, ?_⟩) hHeld ?_; rotate_left; (intro w hSw; (obtain ⟨o0, o1, _⟩ := hSw.o.two; obtain ⟨g0, g1, _⟩ := hSw.g.two; obtain ⟨p0, p1, _⟩ := hSw.p.two; clear hSw); (go_simp <;> with_reducible rfl)); simp only [List.getElem_toArray, List.getElem_cons_zero, List.getElem_cons_succ, Act.put, List.setIfInBounds_toArray, List.set_cons_zero, List.set_cons_succ])
    (refine wpAnyH_take (i := 2) (v := ?_) rfl (by kernel_rfl) (by kernel_rfl) (by kernel_rfl) (fun _ _ _ h => h) (Or.inl ⟨by rfl, ?_⟩) hHeld ?_; rotate_left; (intro w hSw; (obtain ⟨o0, o1, _⟩ := hSw.o.two; obtain ⟨g0, g1, _⟩ := hSw.g.two; obtain ⟨p0, p1, _⟩ := hSw.p.two; clear hSw); (go_simp <;> with_reducible rfl)); simp only [List.getElem_toArray, List.getElem_cons_zero, List.getElem_cons_succ, Act.put, List.setIfInBounds_toArray, List.set_cons_zero, List.set_cons_succ])
    (refine wpAnyH_ready (rs := [3]) (by kernel_rfl) (by simp) ?_; refine AllReadyH.cons rfl (fun K hK => ?_) AllReadyH.nil; go_simp; (refine (HSo.out _).mono ?_; rintro e w9 ⟨rfl, hb9⟩; have hK1 := hHeld.later hb9); refine hK.out _ _ ?_ (fun hHeld => ?_); (first | exact hK3 | exact hK2 | exact hK1 | exact hHeld | exact hKd0); clear hK K; try dsimp only)
    (refine wpAnyH_take (i := 4) (v := ?_) rfl (by kernel_rfl) (by kernel_rfl) (by kernel_rfl) (fun _ _ _ h => h) (Or.inl ⟨by rfl, ?_⟩) hHeld ?_; rotate_left; (intro w hSw; (obtain ⟨o0, o1, _⟩ := hSw.o.two; obtain ⟨g0, g1, _⟩ := hSw.g.two; obtain ⟨p0, p1, _⟩ := hSw.p.two; clear hSw); (go_simp <;> with_reducible rfl)); simp only [List.getElem_toArray, List.getElem_cons_zero, List.getElem_cons_succ, Act.put, List.setIfInBounds_toArray, List.set_cons_zero, List.set_cons_succ])
    (refine wpAnyH_take (i := 5) (v := ?_) rfl (by kernel_rfl) (by kernel_rfl) (by kernel_rfl) (fun _ _ _ h => h) (Or.inl ⟨by rfl, ?_⟩) hHeld ?_; rotate_left; (intro w hSw; (obtain ⟨o0, o1, _⟩ := hSw.o.two; obtain ⟨g0, g1, _⟩ := hSw.g.two; obtain ⟨p0, p1, _⟩ := hSw.p.two; clear hSw); (go_simp <;> with_reducible rfl)); simp only [List.getElem_toArray, List.getElem_cons_zero, List.getElem_cons_succ, Act.put, List.setIfInBounds_toArray, List.set_cons_zero, List.set_cons_succ])
    first | (refine wpAnyH_take (i := 6) (v := ?_) rfl (by kernel_rfl) (by kernel_rfl) (by kernel_rfl) (fun _ _ _ h => h) (Or.inl ⟨by rfl, ?_⟩) hHeld ?_; rotate_left; (intro w hSw; (obtain ⟨o0, o1, _⟩ := hSw.o.two; obtain ⟨g0, g1, _⟩ := hSw.g.two; obtain ⟨p0, p1, _⟩ := hSw.p.two; clear hSw); (go_simp <;> with_reducible rfl)); simp only [List.getElem_toArray, List.getElem_cons_zero, List.getElem_cons_succ, Act.put, List.setIfInBounds_toArray, List.set_cons_zero, List.set_cons_succ]) | (refine wpAnyH_take (i := 6) (v := undef) rfl (by kernel_rfl) (by kernel_rfl) (by kernel_rfl) (fun _ _ _ h => h) (Or.inr ⟨by rfl, rfl⟩) hHeld ?_; simp only [List.getElem_toArray, List.getElem_cons_zero, List.getElem_cons_succ, Act.put, List.setIfInBounds_toArray, List.set_cons_zero, List.set_cons_succ])
    first | (refine wpAnyH_take (i := 7) (v := ?_) rfl (by kernel_rfl) (by kernel_rfl) (by kernel_rfl) (fun _ _ _ h => h) (Or.inl ⟨by rfl, ?_⟩) hHeld ?_; rotate_left; (intro w hSw; (obtain ⟨o0, o1, _⟩ := hSw.o.two; obtain ⟨g0, g1, _⟩ := hSw.g.two; obtain ⟨p0, p1, _⟩ := hSw.p.two; clear hSw); (go_simp <;> with_reducible rfl)); simp only [List.getElem_toArray, List.getElem_cons_zero, List.getElem_cons_succ, Act.put, List.setIfInBounds_toArray, List.set_cons_zero, List.set_cons_succ]) | (refine wpAnyH_take (i := 7) (v := undef) rfl (by kernel_rfl) (by kernel_rfl) (by kernel_rfl) (fun _ _ _ h => h) (Or.inr ⟨by rfl, rfl⟩) hHeld ?_; simp only [List.getElem_toArray, List.getElem_cons_zero, List.getElem_cons_succ, Act.put, List.setIfInBounds_toArray, List.set_cons_zero, List.set_cons_succ])
    first | (refine wpAnyH_take (i := 8) (v := ?_) rfl (by kernel_rfl) (by kernel_rfl) (by kernel_rfl) (fun _ _ _ h => h) (Or.inl ⟨by rfl, ?_⟩) hHeld ?_; rotate_left; (intro w hSw; (obtain ⟨o0, o1, _⟩ := hSw.o.two; obtain ⟨g0, g1, _⟩ := hSw.g.two; obtain ⟨p0, p1, _⟩ := hSw.p.two; clear hSw); (go_simp <;> with_reducible rfl)); simp only [List.getElem_toArray, List.getElem_cons_zero, List.getElem_cons_succ, Act.put, List.setIfInBounds_toArray, List.set_cons_zero, List.set_cons_succ]) | (refine wpAnyH_take (i := 8) (v := undef) rfl (by kernel_rfl) (by kernel_rfl) (by kernel_rfl) (fun _ _ _ h => h) (Or.inr ⟨by rfl, rfl⟩) hHeld ?_; simp only [List.getElem_toArray, List.getElem_cons_zero, List.getElem_cons_succ, Act.put, List.setIfInBounds_toArray, List.set_cons_zero, List.set_cons_succ])
    first | (refine wpAnyH_take (i := 9) (v := undef) rfl (by kernel_rfl) (by kernel_rfl) (by kernel_rfl) (fun _ _ _ h => h) (Or.inr ⟨by rfl, rfl⟩) hHeld ?_; simp only [List.getElem_toArray, List.getElem_cons_zero, List.getElem_cons_succ, Act.put, List.setIfInBounds_toArray, List.set_cons_zero, List.set_cons_succ]) | (refine wpAnyH_ready (rs := [9]) (by kernel_rfl) (by simp) ?_; refine AllReadyH.cons rfl (fun K hK => ?_) AllReadyH.nil; go_simp; (refine (HSg.out _).mono ?_; rintro e w10 ⟨rfl, hb10⟩; have hK2 := hHeld.later hb10); refine hK.out _ _ ?_ (fun hHeld => ?_); (first | exact hK3 | exact hK2 | exact hK1 | exact hHeld | exact hKd0); clear hK K; try dsimp only)
    first | (refine wpAnyH_take (i := 10) (v := ?_) rfl (by kernel_rfl) (by kernel_rfl) (by kernel_rfl) (fun _ _ _ h => h) (Or.inl ⟨by rfl, ?_⟩) hHeld ?_; rotate_left; (intro w hSw; (obtain ⟨o0, o1, _⟩ := hSw.o.two; obtain ⟨g0, g1, _⟩ := hSw.g.two; obtain ⟨p0, p1, _⟩ := hSw.p.two; clear hSw); (go_simp <;> with_reducible rfl)); simp only [List.getElem_toArray, List.getElem_cons_zero, List.getElem_cons_succ, Act.put, List.setIfInBounds_toArray, List.set_cons_zero, List.set_cons_succ]) | (refine wpAnyH_take (i := 10) (v := undef) rfl (by kernel_rfl) (by kernel_rfl) (by kernel_rfl) (fun _ _ _ h => h) (Or.inr ⟨by rfl, rfl⟩) hHeld ?_; simp only [List.getElem_toArray, List.getElem_cons_zero, List.getElem_cons_succ, Act.put, List.setIfInBounds_toArray, List.set_cons_zero, List.set_cons_succ])
    (refine wpAnyH_take (i := 11) (v := ?_) rfl (by kernel_rfl) (by kernel_rfl) (by kernel_rfl) (fun _ _ _ h => h) (Or.inl ⟨by rfl, ?_⟩) hHeld ?_; rotate_left; (intro w hSw; (obtain ⟨o0, o1, _⟩ := hSw.o.two; obtain ⟨g0, g1, _⟩ := hSw.g.two; obtain ⟨p0, p1, _⟩ := hSw.p.two; clear hSw); (go_simp <;> with_reducible rfl)); simp only [List.getElem_toArray, List.getElem_cons_zero, List.getElem_cons_succ, Act.put, List.setIfInBounds_toArray, List.set_cons_zero, List.set_cons_succ])
    (refine wpAnyH_take (i := 12) (v := ?_) rfl (by kernel_rfl) (by kernel_rfl) (by kernel_rfl) (fun _ _ _ h => h) (Or.inl ⟨by rfl, ?_⟩) hHeld ?_; rotate_left; (intro w hSw; (obtain ⟨o0, o1, _⟩ := hSw.o.two; obtain ⟨g0, g1, _⟩ := hSw.g.two; obtain ⟨p0, p1, _⟩ := hSw.p.two; clear hSw); (go_simp <;> with_reducible rfl)); simp only [List.getElem_toArray, List.getElem_cons_zero, List.getElem_cons_succ, Act.put, List.setIfInBounds_toArray, List.set_cons_zero, List.set_cons_succ])
    first | (refine wpAnyH_take (i := 13) (v := ?_) rfl (by kernel_rfl) (by kernel_rfl) (by kernel_rfl) (fun _ _ _ h => h) (Or.inl ⟨by rfl, ?_⟩) hHeld ?_; rotate_left; (intro w hSw; (obtain ⟨o0, o1, _⟩ := hSw.o.two; obtain ⟨g0, g1, _⟩ := hSw.g.two; obtain ⟨p0, p1, _⟩ := hSw.p.two; clear hSw); (go_simp <;> with_reducible rfl)); simp only [List.getElem_toArray, List.getElem_cons_zero, List.getElem_cons_succ, Act.put, List.setIfInBounds_toArray, List.set_cons_zero, List.set_cons_succ]) | (refine wpAnyH_take (i := 13) (v := undef) rfl (by kernel_rfl) (by kernel_rfl) (by kernel_rfl) (fun _ _ _ h => h) (Or.inr ⟨by rfl, rfl⟩) hHeld ?_; simp only [List.getElem_toArray, List.getElem_cons_zero, List.getElem_cons_succ, Act.put, List.setIfInBounds_toArray, List.set_cons_zero, List.set_cons_succ])
    first | (refine wpAnyH_take (i := 14) (v := ?_) rfl (by kernel_rfl) (by kernel_rfl) (by kernel_rfl) (fun _ _ _ h => h) (Or.inl ⟨by rfl, ?_⟩) hHeld ?_; rotate_left; (intro w hSw; (obtain ⟨o0, o1, _⟩ := hSw.o.two; obtain ⟨g0, g1, _⟩ := hSw.g.two; obtain ⟨p0, p1, _⟩ := hSw.p.two; clear hSw); (go_simp <;> with_reducible rfl)); simp only [List.getElem_toArray, List.getElem_cons_zero, List.getElem_cons_succ, Act.put, List.setIfInBounds_toArray, List.set_cons_zero, List.set_cons_succ]) | (refine wpAnyH_take (i := 14) (v := undef) rfl (by kernel_rfl) (by kernel_rfl) (by kernel_rfl) (fun _ _ _ h => h) (Or.inr ⟨by rfl, rfl⟩) hHeld ?_; simp only [List.getElem_toArray, List.getElem_cons_zero, List.getElem_cons_succ, Act.put, List.setIfInBounds_toArray, List.set_cons_zero, List.set_cons_succ])
    first | (refine wpAnyH_take (i := 15) (v := undef) rfl (by kernel_rfl) (by kernel_rfl) (by kernel_rfl) (fun _ _ _ h => h) (Or.inr ⟨by rfl, rfl⟩) hHeld ?_; simp only [List.getElem_toArray, List.getElem_cons_zero, List.getElem_cons_succ, Act.put, List.setIfInBounds_toArray, List.set_cons_zero, List.set_cons_succ]) | (refine wpAnyH_ready (rs := [15]) (by kernel_rfl) (by simp) ?_; refine AllReadyH.cons rfl (fun K hK => ?_) AllReadyH.nil; go_simp; (refine (HSp.out _).mono ?_; rintro e w11 ⟨rfl, hb11⟩; have hK3 := hHeld.later hb11); refine hK.out _ _ ?_ (fun hHeld => ?_); (first | exact hK3 | exact hK2 | exact hK1 | exact hHeld | exact hKd0); clear hK K; try dsimp only)
    first | (refine wpAnyH_take (i := 16) (v := ?_) rfl (by kernel_rfl) (by kernel_rfl) (by kernel_rfl) (fun _ _ _ h => h) (Or.inl ⟨by rfl, ?_⟩) hHeld ?_; rotate_left; (intro w hSw; (obtain ⟨o0, o1, _⟩ := hSw.o.two; obtain ⟨g0, g1, _⟩ := hSw.g.two; obtain ⟨p0, p1, _⟩ := hSw.p.two; clear hSw); (go_simp <;> with_reducible rfl)); simp only [List.getElem_toArray, List.getElem_cons_zero, List.getElem_cons_succ, Act.put, List.setIfInBounds_toArray, List.set_cons_zero, List.set_cons_succ]) | (refine wpAnyH_take (i := 16) (v := undef) rfl (by kernel_rfl) (by kernel_rfl) (by kernel_rfl) (fun _ _ _ h => h) (Or.inr ⟨by rfl, rfl⟩) hHeld ?_; simp only [List.getElem_toArray, List.getElem_cons_zero, List.getElem_cons_succ, Act.put, List.setIfInBounds_toArray, List.set_cons_zero, List.set_cons_succ])
    (refine wpAnyH_take (i := 17) (v := ?_) rfl (by kernel_rfl) (by kernel_rfl) (by kernel_rfl) (fun _ _ _ h => h) (Or.inl ⟨by rfl, ?_⟩) hHeld ?_; rotate_left; (intro w hSw; (obtain ⟨o0, o1, _⟩ := hSw.o.two; obtain ⟨g0, g1, _⟩ := hSw.g.two; obtain ⟨p0, p1, _⟩ := hSw.p.two; clear hSw); (go_simp <;> with_reducible rfl)); simp only [List.getElem_toArray, List.getElem_cons_zero, List.getElem_cons_succ, Act.put, List.setIfInBounds_toArray, List.set_cons_zero, List.set_cons_succ])
    refine wpAnyH_done (by kernel_rfl) ?_ _
    refine NoPanic.normal ?_
    have HK9 := hid hHeld
    clear hHeld HK hKd0 HSo HSg HSp
    obtain ⟨o0, o1, _⟩ := HK9.out.o.two
    obtain ⟨g0, g1, _⟩ := HK9.out.g.two
    obtain ⟨p0, p1, _⟩ := HK9.out.p.two
    have H10 : Hid (gc = 0 → ¬ gv < r ∧ ¬ 47 < gv ∧ ¬ pv < 1 ∧ ¬ 8 < pv) := fun h => by have := HLg.out h; omega
    clear HLg
    go_upto_region 10 with fail
    go_cut [71] from 48 to 71 (fun t wc => t = .bool false ∧ wc = w11)
    case first =>
      by_cases hz : gc = 0
      · obtain ⟨r1, r2, r3, r4⟩ := H10.out hz
        subst hz
        clear H10 HLo HOa HOb
        go_wp2
        go_meet
        case rel => exact ⟨rfl, rfl⟩
      · have b1 : (gc == 0) = false := by simpa using hz
        clear H10 hz HLo HOa HOb
        go_wp2
        go_meet
        case rel => exact ⟨rfl, rfl⟩
    case rest =>
    obtain ⟨rfl, rfl⟩ := hcut
    clear H10 g0 g1 p0 p1
    by_cases hz : oc = 0
    · subst hz
      obtain ⟨_, q2, q3, q4, q5, q6, q7, q8, q9, q10, q11⟩ := HLo.out rfl
      have k1 : IntKind.i64.wrap (1 - b) = 1 - b := wrapk_of (by omega) (by omega)
      have k2 : IntKind.i64.wrap (1 - xv) = 1 - xv := wrapk_of (by omega) (by omega)
      have k3 : IntKind.i64.wrap (n - 1) = n - 1 := wrapk_of (by omega) (by omega)
      have k4 : IntKind.i64.wrap (1 - yv) = 1 - yv := wrapk_of (by omega) (by omega)
      have b2 : (ov == 1 - xv) = true := by simp; omega
      clear HLo
      go_upto_region 14 with fail
      clear o0 o1
      have hKd0 := HK9.out.later (Below.refl _ _).drew
      by_cases hn : n = 0
      · have b1 : (n == 0) = true := by simpa using hn
        clear q2 q3 hn
        refine wp_region_noPanic ?_
        refine wp_region_held_drew (S := fun W => OW w A B C 0 ov gc gv pc pv W) (by kernel_rfl) ?_ (fun hHeld => ?_)
        · first | exact hK3 | exact hK2 | exact hK1 | exact hHeld | exact hKd0
        (refine wpAnyH_take (i := 0) (v := ?_) rfl (by kernel_rfl) (by kernel_rfl) (by kernel_rfl) (fun _ _ _ h => h) (Or.inl ⟨by rfl, ?_⟩) hHeld ?_; rotate_left; (intro w hSw; (obtain ⟨o0, o1, _⟩ := hSw.o.two; clear hSw); (go_simp <;> with_reducible rfl)); simp only [List.getElem_toArray, List.getElem_cons_zero, Act.put, List.setIfInBounds_toArray, List.set_cons_zero, List.set_cons_succ])
        (refine wpAnyH_take (i := 1) (v := ?_) rfl (by kernel_rfl) (by kernel_rfl) (by kernel_rfl) (fun _ _ _ h => h) (Or.inl ⟨by rfl, ?_⟩) hHeld ?_; rotate_left; (intro w hSw; (obtain ⟨o0, o1, _⟩ := hSw.o.two; clear hSw); (go_simp <;> with_reducible rfl)); simp only [List.getElem_toArray, List.getElem_cons_zero, List.getElem_cons_succ, Act.put, List.setIfInBounds_toArray, List.set_cons_zero, List.set_cons_succ])
        (refine wpAnyH_take (i := 2) (v := ?_) rfl (by kernel_rfl) (by kernel_rfl) (by kernel_rfl) (fun _ _ _ h => h) (Or.inl ⟨by rfl, ?_⟩) hHeld ?_; rotate_left; (intro w hSw; (obtain ⟨o0, o1, _⟩ := hSw.o.two; clear hSw); (go_simp <;> with_reducible rfl)); simp only [List.getElem_toArray, List.getElem_cons_zero, List.getElem_cons_succ, Act.put, List.setIfInBounds_toArray, List.set_cons_zero, List.set_cons_succ])
        (refine wpAnyH_take (i := 3) (v := ?_) rfl (by kernel_rfl) (by kernel_rfl) (by kernel_rfl) (fun _ _ _ h => h) (Or.inl ⟨by rfl, ?_⟩) hHeld ?_; rotate_left; (intro w hSw; (obtain ⟨o0, o1, _⟩ := hSw.o.two; clear hSw); (go_simp <;> with_reducible rfl)); simp only [List.getElem_toArray, List.getElem_cons_zero, List.getElem_cons_succ, Act.put, List.setIfInBounds_toArray, List.set_cons_zero, List.set_cons_succ])
        (refine wpAnyH_take (i := 4) (v := ?_) rfl (by kernel_rfl) (by kernel_rfl) (by kernel_rfl) (fun _ _ _ h => h) (Or.inl ⟨by rfl, ?_⟩) hHeld ?_; rotate_left; (intro w hSw; (obtain ⟨o0, o1, _⟩ := hSw.o.two; clear hSw); (go_simp <;> with_reducible rfl)); simp only [List.getElem_toArray, List.getElem_cons_zero, List.getElem_cons_succ, Act.put, List.setIfInBounds_toArray, List.set_cons_zero, List.set_cons_succ])
        (refine wpAnyH_ready (rs := [5]) (by kernel_rfl) (by simp) ?_; refine AllReadyH.cons rfl (fun K hK => ?_) AllReadyH.nil; go_simp; (refine (HOa.out _ hHeld.b).mono ?_; rintro e w12 ⟨rfl, hb12⟩; have hK1 := hHeld.later hb12); refine hK.out _ _ ?_ (fun hHeld => ?_); (first | exact hK3 | exact hK2 | exact hK1 | exact hHeld | exact hKd0); clear hK K; try dsimp only)
        (refine wpAnyH_take (i := 6) (v := ?_) rfl (by kernel_rfl) (by kernel_rfl) (by kernel_rfl) (fun _ _ _ h => h) (Or.inl ⟨by rfl, ?_⟩) hHeld ?_; rotate_left; (intro w hSw; (obtain ⟨o0, o1, _⟩ := hSw.o.two; clear hSw); (go_simp <;> with_reducible rfl)); simp only [List.getElem_toArray, List.getElem_cons_zero, List.getElem_cons_succ, Act.put, List.setIfInBounds_toArray, List.set_cons_zero, List.set_cons_succ])
        (refine wpAnyH_take (i := 7) (v := ?_) rfl (by kernel_rfl) (by kernel_rfl) (by kernel_rfl) (fun _ _ _ h => h) (Or.inl ⟨by rfl, ?_⟩) hHeld ?_; rotate_left; (intro w hSw; (obtain ⟨o0, o1, _⟩ := hSw.o.two; clear hSw); (go_simp <;> with_reducible rfl)); simp only [List.getElem_toArray, List.getElem_cons_zero, List.getElem_cons_succ, Act.put, List.setIfInBounds_toArray, List.set_cons_zero, List.set_cons_succ])
        (refine wpAnyH_take (i := 8) (v := ?_) rfl (by kernel_rfl) (by kernel_rfl) (by kernel_rfl) (fun _ _ _ h => h) (Or.inl ⟨by rfl, ?_⟩) hHeld ?_; rotate_left; (intro w hSw; (obtain ⟨o0, o1, _⟩ := hSw.o.two; clear hSw); (go_simp <;> with_reducible rfl)); simp only [List.getElem_toArray, List.getElem_cons_zero, List.getElem_cons_succ, Act.put, List.setIfInBounds_toArray, List.set_cons_zero, List.set_cons_succ])
        (refine wpAnyH_take (i := 9) (v := ?_) rfl (by kernel_rfl) (by kernel_rfl) (by kernel_rfl) (fun _ _ _ h => h) (Or.inl ⟨by rfl, ?_⟩) hHeld ?_; rotate_left; (intro w hSw; (obtain ⟨o0, o1, _⟩ := hSw.o.two; clear hSw); (go_simp <;> with_reducible rfl)); simp only [List.getElem_toArray, List.getElem_cons_zero, List.getElem_cons_succ, Act.put, List.setIfInBounds_toArray, List.set_cons_zero, List.set_cons_succ])
        first | (refine wpAnyH_take (i := 10) (v := ?_) rfl (by kernel_rfl) (by kernel_rfl) (by kernel_rfl) (fun _ _ _ h => h) (Or.inl ⟨by rfl, ?_⟩) hHeld ?_; rotate_left; (intro w hSw; (obtain ⟨o0, o1, _⟩ := hSw.o.two; clear hSw); (go_simp <;> with_reducible rfl)); simp only [List.getElem_toArray, List.getElem_cons_zero, List.getElem_cons_succ, Act.put, List.setIfInBounds_toArray, List.set_cons_zero, List.set_cons_succ]) | (refine wpAnyH_take (i := 10) (v := undef) rfl (by kernel_rfl) (by kernel_rfl) (by kernel_rfl) (fun _ _ _ h => h) (Or.inr ⟨by rfl, rfl⟩) hHeld ?_; simp only [List.getElem_toArray, List.getElem_cons_zero, List.getElem_cons_succ, Act.put, List.setIfInBounds_toArray, List.set_cons_zero, List.set_cons_succ])
        first | (refine wpAnyH_take (i := 11) (v := ?_) rfl (by kernel_rfl) (by kernel_rfl) (by kernel_rfl) (fun _ _ _ h => h) (Or.inl ⟨by rfl, ?_⟩) hHeld ?_; rotate_left; (intro w hSw; (obtain ⟨o0, o1, _⟩ := hSw.o.two; clear hSw); (go_simp <;> with_reducible rfl)); simp only [List.getElem_toArray, List.getElem_cons_zero, List.getElem_cons_succ, Act.put, List.setIfInBounds_toArray, List.set_cons_zero, List.set_cons_succ]) | (refine wpAnyH_take (i := 11) (v := undef) rfl (by kernel_rfl) (by kernel_rfl) (by kernel_rfl) (fun _ _ _ h => h) (Or.inr ⟨by rfl, rfl⟩) hHeld ?_; simp only [List.getElem_toArray, List.getElem_cons_zero, List.getElem_cons_succ, Act.put, List.setIfInBounds_toArray, List.set_cons_zero, List.set_cons_succ])
        first | (refine wpAnyH_take (i := 12) (v := ?_) rfl (by kernel_rfl) (by kernel_rfl) (by kernel_rfl) (fun _ _ _ h => h) (Or.inl ⟨by rfl, ?_⟩) hHeld ?_; rotate_left; (intro w hSw; (obtain ⟨o0, o1, _⟩ := hSw.o.two; clear hSw); (go_simp <;> with_reducible rfl)); simp only [List.getElem_toArray, List.getElem_cons_zero, List.getElem_cons_succ, Act.put, List.setIfInBounds_toArray, List.set_cons_zero, List.set_cons_succ]) | (refine wpAnyH_take (i := 12) (v := undef) rfl (by kernel_rfl) (by kernel_rfl) (by kernel_rfl) (fun _ _ _ h => h) (Or.inr ⟨by rfl, rfl⟩) hHeld ?_; simp only [List.getElem_toArray, List.getElem_cons_zero, List.getElem_cons_succ, Act.put, List.setIfInBounds_toArray, List.set_cons_zero, List.set_cons_succ])
        first | (refine wpAnyH_take (i := 13) (v := ?_) rfl (by kernel_rfl) (by kernel_rfl) (by kernel_rfl) (fun _ _ _ h => h) (Or.inl ⟨by rfl, ?_⟩) hHeld ?_; rotate_left; (intro w hSw; (obtain ⟨o0, o1, _⟩ := hSw.o.two; clear hSw); (go_simp <;> with_reducible rfl)); simp only [List.getElem_toArray, List.getElem_cons_zero, List.getElem_cons_succ, Act.put, List.setIfInBounds_toArray, List.set_cons_zero, List.set_cons_succ]) | (refine wpAnyH_take (i := 13) (v := undef) rfl (by kernel_rfl) (by kernel_rfl) (by kernel_rfl) (fun _ _ _ h => h) (Or.inr ⟨by rfl, rfl⟩) hHeld ?_; simp only [List.getElem_toArray, List.getElem_cons_zero, List.getElem_cons_succ, Act.put, List.setIfInBounds_toArray, List.set_cons_zero, List.set_cons_succ])
        first | (refine wpAnyH_take (i := 14) (v := ?_) rfl (by kernel_rfl) (by kernel_rfl) (by kernel_rfl) (fun _ _ _ h => h) (Or.inl ⟨by rfl, ?_⟩) hHeld ?_; rotate_left; (intro w hSw; (obtain ⟨o0, o1, _⟩ := hSw.o.two; clear hSw); (go_simp <;> with_reducible rfl)); simp only [List.getElem_toArray, List.getElem_cons_zero, List.getElem_cons_succ, Act.put, List.setIfInBounds_toArray, List.set_cons_zero, List.set_cons_succ]) | (refine wpAnyH_take (i := 14) (v := undef) rfl (by kernel_rfl) (by kernel_rfl) (by kernel_rfl) (fun _ _ _ h => h) (Or.inr ⟨by rfl, rfl⟩) hHeld ?_; simp only [List.getElem_toArray, List.getElem_cons_zero, List.getElem_cons_succ, Act.put, List.setIfInBounds_toArray, List.set_cons_zero, List.set_cons_succ])
        first | (refine wpAnyH_take (i := 15) (v := ?_) rfl (by kernel_rfl) (by kernel_rfl) (by kernel_rfl) (fun _ _ _ h => h) (Or.inl ⟨by rfl, ?_⟩) hHeld ?_; rotate_left; (intro w hSw; (obtain ⟨o0, o1, _⟩ := hSw.o.two; clear hSw); (go_simp <;> with_reducible rfl)); simp only [List.getElem_toArray, List.getElem_cons_zero, List.getElem_cons_succ, Act.put, List.setIfInBounds_toArray, List.set_cons_zero, List.set_cons_succ]) | (refine wpAnyH_take (i := 15) (v := undef) rfl (by kernel_rfl) (by kernel_rfl) (by kernel_rfl) (fun _ _ _ h => h) (Or.inr ⟨by rfl, rfl⟩) hHeld ?_; simp only [List.getElem_toArray, List.getElem_cons_zero, List.getElem_cons_succ, Act.put, List.setIfInBounds_toArray, List.set_cons_zero, List.set_cons_succ])
        first | (refine wpAnyH_take (i := 16) (v := ?_) rfl (by kernel_rfl) (by kernel_rfl) (by kernel_rfl) (fun _ _ _ h => h) (Or.inl ⟨by rfl, ?_⟩) hHeld ?_; rotate_left; (intro w hSw; (obtain ⟨o0, o1, _⟩ := hSw.o.two; clear hSw); (go_simp <;> with_reducible rfl)); simp only [List.getElem_toArray, List.getElem_cons_zero, List.getElem_cons_succ, Act.put, List.setIfInBounds_toArray, List.set_cons_zero, List.set_cons_succ]) | (refine wpAnyH_take (i := 16) (v := undef) rfl (by kernel_rfl) (by kernel_rfl) (by kernel_rfl) (fun _ _ _ h => h) (Or.inr ⟨by rfl, rfl⟩) hHeld ?_; simp only [List.getElem_toArray, List.getElem_cons_zero, List.getElem_cons_succ, Act.put, List.setIfInBounds_toArray, List.set_cons_zero, List.set_cons_succ])
        first | (refine wpAnyH_take (i := 17) (v := ?_) rfl (by kernel_rfl) (by kernel_rfl) (by kernel_rfl) (fun _ _ _ h => h) (Or.inl ⟨by rfl, ?_⟩) hHeld ?_; rotate_left; (intro w hSw; (obtain ⟨o0, o1, _⟩ := hSw.o.two; clear hSw); (go_simp <;> with_reducible rfl)); simp only [List.getElem_toArray, List.getElem_cons_zero, List.getElem_cons_succ, Act.put, List.setIfInBounds_toArray, List.set_cons_zero, List.set_cons_succ]) | (refine wpAnyH_take (i := 17) (v := undef) rfl (by kernel_rfl) (by kernel_rfl) (by kernel_rfl) (fun _ _ _ h => h) (Or.inr ⟨by rfl, rfl⟩) hHeld ?_; simp only [List.getElem_toArray, List.getElem_cons_zero, List.getElem_cons_succ, Act.put, List.setIfInBounds_toArray, List.set_cons_zero, List.set_cons_succ])
        first | (refine wpAnyH_take (i := 18) (v := undef) rfl (by kernel_rfl) (by kernel_rfl) (by kernel_rfl) (fun _ _ _ h => h) (Or.inr ⟨by rfl, rfl⟩) hHeld ?_; simp only [List.getElem_toArray, List.getElem_cons_zero, List.getElem_cons_succ, Act.put, List.setIfInBounds_toArray, List.set_cons_zero, List.set_cons_succ]) | (refine wpAnyH_ready (rs := [18]) (by kernel_rfl) (by simp) ?_; refine AllReadyH.cons rfl (fun K hK => ?_) AllReadyH.nil; go_simp; (refine (HOb.out _ hHeld.b).mono ?_; rintro e w13 ⟨rfl, hb13⟩; have hK2 := hHeld.later hb13); refine hK.out _ _ ?_ (fun hHeld => ?_); (first | exact hK3 | exact hK2 | exact hK1 | exact hHeld | exact hKd0); clear hK K; try dsimp only)
        first | (refine wpAnyH_take (i := 19) (v := ?_) rfl (by kernel_rfl) (by kernel_rfl) (by kernel_rfl) (fun _ _ _ h => h) (Or.inl ⟨by rfl, ?_⟩) hHeld ?_; rotate_left; (intro w hSw; (obtain ⟨o0, o1, _⟩ := hSw.o.two; clear hSw); (go_simp <;> with_reducible rfl)); simp only [List.getElem_toArray, List.getElem_cons_zero, List.getElem_cons_succ, Act.put, List.setIfInBounds_toArray, List.set_cons_zero, List.set_cons_succ]) | (refine wpAnyH_take (i := 19) (v := undef) rfl (by kernel_rfl) (by kernel_rfl) (by kernel_rfl) (fun _ _ _ h => h) (Or.inr ⟨by rfl, rfl⟩) hHeld ?_; simp only [List.getElem_toArray, List.getElem_cons_zero, List.getElem_cons_succ, Act.put, List.setIfInBounds_toArray, List.set_cons_zero, List.set_cons_succ])
        first | (refine wpAnyH_take (i := 20) (v := ?_) rfl (by kernel_rfl) (by kernel_rfl) (by kernel_rfl) (fun _ _ _ h => h) (Or.inl ⟨by rfl, ?_⟩) hHeld ?_; rotate_left; (intro w hSw; (obtain ⟨o0, o1, _⟩ := hSw.o.two; clear hSw); (go_simp <;> with_reducible rfl)); simp only [List.getElem_toArray, List.getElem_cons_zero, List.getElem_cons_succ, Act.put, List.setIfInBounds_toArray, List.set_cons_zero, List.set_cons_succ]) | (refine wpAnyH_take (i := 20) (v := undef) rfl (by kernel_rfl) (by kernel_rfl) (by kernel_rfl) (fun _ _ _ h => h) (Or.inr ⟨by rfl, rfl⟩) hHeld ?_; simp only [List.getElem_toArray, List.getElem_cons_zero, List.getElem_cons_succ, Act.put, List.setIfInBounds_toArray, List.set_cons_zero, List.set_cons_succ])
        first | (refine wpAnyH_take (i := 21) (v := ?_) rfl (by kernel_rfl) (by kernel_rfl) (by kernel_rfl) (fun _ _ _ h => h) (Or.inl ⟨by rfl, ?_⟩) hHeld ?_; rotate_left; (intro w hSw; (obtain ⟨o0, o1, _⟩ := hSw.o.two; clear hSw); (go_simp <;> with_reducible rfl)); simp only [List.getElem_toArray, List.getElem_cons_zero, List.getElem_cons_succ, Act.put, List.setIfInBounds_toArray, List.set_cons_zero, List.set_cons_succ]) | (refine wpAnyH_take (i := 21) (v := undef) rfl (by kernel_rfl) (by kernel_rfl) (by kernel_rfl) (fun _ _ _ h => h) (Or.inr ⟨by rfl, rfl⟩) hHeld ?_; simp only [List.getElem_toArray, List.getElem_cons_zero, List.getElem_cons_succ, Act.put, List.setIfInBounds_toArray, List.set_cons_zero, List.set_cons_succ])
        first | (refine wpAnyH_take (i := 22) (v := ?_) rfl (by kernel_rfl) (by kernel_rfl) (by kernel_rfl) (fun _ _ _ h => h) (Or.inl ⟨by rfl, ?_⟩) hHeld ?_; rotate_left; (intro w hSw; (obtain ⟨o0, o1, _⟩ := hSw.o.two; clear hSw); (go_simp <;> with_reducible rfl)); simp only [List.getElem_toArray, List.getElem_cons_zero, List.getElem_cons_succ, Act.put, List.setIfInBounds_toArray, List.set_cons_zero, List.set_cons_succ]) | (refine wpAnyH_take (i := 22) (v := undef) rfl (by kernel_rfl) (by kernel_rfl) (by kernel_rfl) (fun _ _ _ h => h) (Or.inr ⟨by rfl, rfl⟩) hHeld ?_; simp only [List.getElem_toArray, List.getElem_cons_zero, List.getElem_cons_succ, Act.put, List.setIfInBounds_toArray, List.set_cons_zero, List.set_cons_succ])
        (refine wpAnyH_take (i := 23) (v := ?_) rfl (by kernel_rfl) (by kernel_rfl) (by kernel_rfl) (fun _ _ _ h => h) (Or.inl ⟨by rfl, ?_⟩) hHeld ?_; rotate_left; (intro w hSw; (obtain ⟨o0, o1, _⟩ := hSw.o.two; clear hSw); (go_simp <;> with_reducible rfl)); simp only [List.getElem_toArray, List.getElem_cons_zero, List.getElem_cons_succ, Act.put, List.setIfInBounds_toArray, List.set_cons_zero, List.set_cons_succ])
        (refine wpAnyH_take (i := 24) (v := ?_) rfl (by kernel_rfl) (by kernel_rfl) (by kernel_rfl) (fun _ _ _ h => h) (Or.inl ⟨by rfl, ?_⟩) hHeld ?_; rotate_left; (intro w hSw; (obtain ⟨o0, o1, _⟩ := hSw.o.two; clear hSw); (go_simp <;> with_reducible rfl)); simp only [List.getElem_toArray, List.getElem_cons_zero, List.getElem_cons_succ, Act.put, List.setIfInBounds_toArray, List.set_cons_zero, List.set_cons_succ])
        refine wpAnyH_done (by kernel_rfl) ?_ _
        refine NoPanic.normal ?_
        have HF := hid hHeld.b
        clear hHeld hKd0
        go_wp2
        go_ret
        exact ⟨rfl, HF.out⟩
      · have b1 : (n == 0) = false := by simpa using hn
        have b3 : (ov == 1 - yv) = true := by have := q3 hn; simp; omega
        clear q2 q3 hn
        refine wp_region_noPanic ?_
        refine wp_region_held_drew (S := fun W => OW w A B C 0 ov gc gv pc pv W) (by kernel_rfl) ?_ (fun hHeld => ?_)
        · first | exact hK3 | exact hK2 | exact hK1 | exact hHeld | exact hKd0
        (refine wpAnyH_take (i := 0) (v := ?_) rfl (by kernel_rfl) (by kernel_rfl) (by kernel_rfl) (fun _ _ _ h => h) (Or.inl ⟨by rfl, ?_⟩) hHeld ?_; rotate_left; (intro w hSw; (obtain ⟨o0, o1, _⟩ := hSw.o.two; clear hSw); (go_simp <;> with_reducible rfl)); simp only [List.getElem_toArray, List.getElem_cons_zero, Act.put, List.setIfInBounds_toArray, List.set_cons_zero, List.set_cons_succ])
        (refine wpAnyH_take (i := 1) (v := ?_) rfl (by kernel_rfl) (by kernel_rfl) (by kernel_rfl) (fun _ _ _ h => h) (Or.inl ⟨by rfl, ?_⟩) hHeld ?_; rotate_left; (intro w hSw; (obtain ⟨o0, o1, _⟩ := hSw.o.two; clear hSw); (go_simp <;> with_reducible rfl)); simp only [List.getElem_toArray, List.getElem_cons_zero, List.getElem_cons_succ, Act.put, List.setIfInBounds_toArray, List.set_cons_zero, List.set_cons_succ])
        (refine wpAnyH_take (i := 2) (v := ?_) rfl (by kernel_rfl) (by kernel_rfl) (by kernel_rfl) (fun _ _ _ h => h) (Or.inl ⟨by rfl, ?_⟩) hHeld ?_; rotate_left; (intro w hSw; (obtain ⟨o0, o1, _⟩ := hSw.o.two; clear hSw); (go_simp <;> with_reducible rfl)); simp only [List.getElem_toArray, List.getElem_cons_zero, List.getElem_cons_succ, Act.put, List.setIfInBounds_toArray, List.set_cons_zero, List.set_cons_succ])
        (refine wpAnyH_take (i := 3) (v := ?_) rfl (by kernel_rfl) (by kernel_rfl) (by kernel_rfl) (fun _ _ _ h => h) (Or.inl ⟨by rfl, ?_⟩) hHeld ?_; rotate_left; (intro w hSw; (obtain ⟨o0, o1, _⟩ := hSw.o.two; clear hSw); (go_simp <;> with_reducible rfl)); simp only [List.getElem_toArray, List.getElem_cons_zero, List.getElem_cons_succ, Act.put, List.setIfInBounds_toArray, List.set_cons_zero, List.set_cons_succ])
        (refine wpAnyH_take (i := 4) (v := ?_) rfl (by kernel_rfl) (by kernel_rfl) (by kernel_rfl) (fun _ _ _ h => h) (Or.inl ⟨by rfl, ?_⟩) hHeld ?_; rotate_left; (intro w hSw; (obtain ⟨o0, o1, _⟩ := hSw.o.two; clear hSw); (go_simp <;> with_reducible rfl)); simp only [List.getElem_toArray, List.getElem_cons_zero, List.getElem_cons_succ, Act.put, List.setIfInBounds_toArray, List.set_cons_zero, List.set_cons_succ])
        (refine wpAnyH_ready (rs := [5]) (by kernel_rfl) (by simp) ?_; refine AllReadyH.cons rfl (fun K hK => ?_) AllReadyH.nil; go_simp; (refine (HOa.out _ hHeld.b).mono ?_; rintro e w12 ⟨rfl, hb12⟩; have hK1 := hHeld.later hb12); refine hK.out _ _ ?_ (fun hHeld => ?_); (first | exact hK3 | exact hK2 | exact hK1 | exact hHeld | exact hKd0); clear hK K; try dsimp only)
        (refine wpAnyH_take (i := 6) (v := ?_) rfl (by kernel_rfl) (by kernel_rfl) (by kernel_rfl) (fun _ _ _ h => h) (Or.inl ⟨by rfl, ?_⟩) hHeld ?_; rotate_left; (intro w hSw; (obtain ⟨o0, o1, _⟩ := hSw.o.two; clear hSw); (go_simp <;> with_reducible rfl)); simp only [List.getElem_toArray, List.getElem_cons_zero, List.getElem_cons_succ, Act.put, List.setIfInBounds_toArray, List.set_cons_zero, List.set_cons_succ])
        (refine wpAnyH_take (i := 7) (v := ?_) rfl (by kernel_rfl) (by kernel_rfl) (by kernel_rfl) (fun _ _ _ h => h) (Or.inl ⟨by rfl, ?_⟩) hHeld ?_; rotate_left; (intro w hSw; (obtain ⟨o0, o1, _⟩ := hSw.o.two; clear hSw); (go_simp <;> with_reducible rfl)); simp only [List.getElem_toArray, List.getElem_cons_zero, List.getElem_cons_succ, Act.put, List.setIfInBounds_toArray, List.set_cons_zero, List.set_cons_succ])
        (refine wpAnyH_take (i := 8) (v := ?_) rfl (by kernel_rfl) (by kernel_rfl) (by kernel_rfl) (fun _ _ _ h => h) (Or.inl ⟨by rfl, ?_⟩) hHeld ?_; rotate_left; (intro w hSw; (obtain ⟨o0, o1, _⟩ := hSw.o.two; clear hSw); (go_simp <;> with_reducible rfl)); simp only [List.getElem_toArray, List.getElem_cons_zero, List.getElem_cons_succ, Act.put, List.setIfInBounds_toArray, List.set_cons_zero, List.set_cons_succ])
        (refine wpAnyH_take (i := 9) (v := ?_) rfl (by kernel_rfl) (by kernel_rfl) (by kernel_rfl) (fun _ _ _ h => h) (Or.inl ⟨by rfl, ?_⟩) hHeld ?_; rotate_left; (intro w hSw; (obtain ⟨o0, o1, _⟩ := hSw.o.two; clear hSw); (go_simp <;> with_reducible rfl)); simp only [List.getElem_toArray, List.getElem_cons_zero, List.getElem_cons_succ, Act.put, List.setIfInBounds_toArray, List.set_cons_zero, List.set_cons_succ])
        first | (refine wpAnyH_take (i := 10) (v := ?_) rfl (by kernel_rfl) (by kernel_rfl) (by kernel_rfl) (fun _ _ _ h => h) (Or.inl ⟨by rfl, ?_⟩) hHeld ?_; rotate_left; (intro w hSw; (obtain ⟨o0, o1, _⟩ := hSw.o.two; clear hSw); (go_simp <;> with_reducible rfl)); simp only [List.getElem_toArray, List.getElem_cons_zero, List.getElem_cons_succ, Act.put, List.setIfInBounds_toArray, List.set_cons_zero, List.set_cons_succ]) | (refine wpAnyH_take (i := 10) (v := undef) rfl (by kernel_rfl) (by kernel_rfl) (by kernel_rfl) (fun _ _ _ h => h) (Or.inr ⟨by rfl, rfl⟩) hHeld ?_; simp only [List.getElem_toArray, List.getElem_cons_zero, List.getElem_cons_succ, Act.put, List.setIfInBounds_toArray, List.set_cons_zero, List.set_cons_succ])
        first | (refine wpAnyH_take (i := 11) (v := ?_) rfl (by kernel_rfl) (by kernel_rfl) (by kernel_rfl) (fun _ _ _ h => h) (Or.inl ⟨by rfl, ?_⟩) hHeld ?_; rotate_left; (intro w hSw; (obtain ⟨o0, o1, _⟩ := hSw.o.two; clear hSw); (go_simp <;> with_reducible rfl)); simp only [List.getElem_toArray, List.getElem_cons_zero, List.getElem_cons_succ, Act.put, List.setIfInBounds_toArray, List.set_cons_zero, List.set_cons_succ]) | (refine wpAnyH_take (i := 11) (v := undef) rfl (by kernel_rfl) (by kernel_rfl) (by kernel_rfl) (fun _ _ _ h => h) (Or.inr ⟨by rfl, rfl⟩) hHeld ?_; simp only [List.getElem_toArray, List.getElem_cons_zero, List.getElem_cons_succ, Act.put, List.setIfInBounds_toArray, List.set_cons_zero, List.set_cons_succ])
        first | (refine wpAnyH_take (i := 12) (v := ?_) rfl (by kernel_rfl) (by kernel_rfl) (by kernel_rfl) (fun _ _ _ h => h) (Or.inl ⟨by rfl, ?_⟩) hHeld ?_; rotate_left; (intro w hSw; (obtain ⟨o0, o1, _⟩ := hSw.o.two; clear hSw); (go_simp <;> with_reducible rfl)); simp only [List.getElem_toArray, List.getElem_cons_zero, List.getElem_cons_succ, Act.put, List.setIfInBounds_toArray, List.set_cons_zero, List.set_cons_succ]) | (refine wpAnyH_take (i := 12) (v := undef) rfl (by kernel_rfl) (by kernel_rfl) (by kernel_rfl) (fun _ _ _ h => h) (Or.inr ⟨by rfl, rfl⟩) hHeld ?_; simp only [List.getElem_toArray, List.getElem_cons_zero, List.getElem_cons_succ, Act.put, List.setIfInBounds_toArray, List.set_cons_zero, List.set_cons_succ])
        first | (refine wpAnyH_take (i := 13) (v := ?_) rfl (by kernel_rfl) (by kernel_rfl) (by kernel_rfl) (fun _ _ _ h => h) (Or.inl ⟨by rfl, ?_⟩) hHeld ?_; rotate_left; (intro w hSw; (obtain ⟨o0, o1, _⟩ := hSw.o.two; clear hSw); (go_simp <;> with_reducible rfl)); simp only [List.getElem_toArray, List.getElem_cons_zero, List.getElem_cons_succ, Act.put, List.setIfInBounds_toArray, List.set_cons_zero, List.set_cons_succ]) | (refine wpAnyH_take (i := 13) (v := undef) rfl (by kernel_rfl) (by kernel_rfl) (by kernel_rfl) (fun _ _ _ h => h) (Or.inr ⟨by rfl, rfl⟩) hHeld ?_; simp only [List.getElem_toArray, List.getElem_cons_zero, List.getElem_cons_succ, Act.put, List.setIfInBounds_toArray, List.set_cons_zero, List.set_cons_succ])
        first | (refine wpAnyH_take (i := 14) (v := ?_) rfl (by kernel_rfl) (by kernel_rfl) (by kernel_rfl) (fun _ _ _ h => h) (Or.inl ⟨by rfl, ?_⟩) hHeld ?_; rotate_left; (intro w hSw; (obtain ⟨o0, o1, _⟩ := hSw.o.two; clear hSw); (go_simp <;> with_reducible rfl)); simp only [List.getElem_toArray, List.getElem_cons_zero, List.getElem_cons_succ, Act.put, List.setIfInBounds_toArray, List.set_cons_zero, List.set_cons_succ]) | (refine wpAnyH_take (i := 14) (v := undef) rfl (by kernel_rfl) (by kernel_rfl) (by kernel_rfl) (fun _ _ _ h => h) (Or.inr ⟨by rfl, rfl⟩) hHeld ?_; simp only [List.getElem_toArray, List.getElem_cons_zero, List.getElem_cons_succ, Act.put, List.setIfInBounds_toArray, List.set_cons_zero, List.set_cons_succ])
        first | (refine wpAnyH_take (i := 15) (v := ?_) rfl (by kernel_rfl) (by kernel_rfl) (by kernel_rfl) (fun _ _ _ h => h) (Or.inl ⟨by rfl, ?_⟩) hHeld ?_; rotate_left; (intro w hSw; (obtain ⟨o0, o1, _⟩ := hSw.o.two; clear hSw); (go_simp <;> with_reducible rfl)); simp only [List.getElem_toArray, List.getElem_cons_zero, List.getElem_cons_succ, Act.put, List.setIfInBounds_toArray, List.set_cons_zero, List.set_cons_succ]) | (refine wpAnyH_take (i := 15) (v := undef) rfl (by kernel_rfl) (by kernel_rfl) (by kernel_rfl) (fun _ _ _ h => h) (Or.inr ⟨by rfl, rfl⟩) hHeld ?_; simp only [List.getElem_toArray, List.getElem_cons_zero, List.getElem_cons_succ, Act.put, List.setIfInBounds_toArray, List.set_cons_zero, List.set_cons_succ])
        first | (refine wpAnyH_take (i := 16) (v := ?_) rfl (by kernel_rfl) (by kernel_rfl) (by kernel_rfl) (fun _ _ _ h => h) (Or.inl ⟨by rfl, ?_⟩) hHeld ?_; rotate_left; (intro w hSw; (obtain ⟨o0, o1, _⟩ := hSw.o.two; clear hSw); (go_simp <;> with_reducible rfl)); simp only [List.getElem_toArray, List.getElem_cons_zero, List.getElem_cons_succ, Act.put, List.setIfInBounds_toArray, List.set_cons_zero, List.set_cons_succ]) | (refine wpAnyH_take (i := 16) (v := undef) rfl (by kernel_rfl) (by kernel_rfl) (by kernel_rfl) (fun _ _ _ h => h) (Or.inr ⟨by rfl, rfl⟩) hHeld ?_; simp only [List.getElem_toArray, List.getElem_cons_zero, List.getElem_cons_succ, Act.put, List.setIfInBounds_toArray, List.set_cons_zero, List.set_cons_succ])
        first | (refine wpAnyH_take (i := 17) (v := ?_) rfl (by kernel_rfl) (by kernel_rfl) (by kernel_rfl) (fun _ _ _ h => h) (Or.inl ⟨by rfl, ?_⟩) hHeld ?_; rotate_left; (intro w hSw; (obtain ⟨o0, o1, _⟩ := hSw.o.two; clear hSw); (go_simp <;> with_reducible rfl)); simp only [List.getElem_toArray, List.getElem_cons_zero, List.getElem_cons_succ, Act.put, List.setIfInBounds_toArray, List.set_cons_zero, List.set_cons_succ]) | (refine wpAnyH_take (i := 17) (v := undef) rfl (by kernel_rfl) (by kernel_rfl) (by kernel_rfl) (fun _ _ _ h => h) (Or.inr ⟨by rfl, rfl⟩) hHeld ?_; simp only [List.getElem_toArray, List.getElem_cons_zero, List.getElem_cons_succ, Act.put, List.setIfInBounds_toArray, List.set_cons_zero, List.set_cons_succ])
        first | (refine wpAnyH_take (i := 18) (v := undef) rfl (by kernel_rfl) (by kernel_rfl) (by kernel_rfl) (fun _ _ _ h => h) (Or.inr ⟨by rfl, rfl⟩) hHeld ?_; simp only [List.getElem_toArray, List.getElem_cons_zero, List.getElem_cons_succ, Act.put, List.setIfInBounds_toArray, List.set_cons_zero, List.set_cons_succ]) | (refine wpAnyH_ready (rs := [18]) (by kernel_rfl) (by simp) ?_; refine AllReadyH.cons rfl (fun K hK => ?_) AllReadyH.nil; go_simp; (refine (HOb.out _ hHeld.b).mono ?_; rintro e w13 ⟨rfl, hb13⟩; have hK2 := hHeld.later hb13); refine hK.out _ _ ?_ (fun hHeld => ?_); (first | exact hK3 | exact hK2 | exact hK1 | exact hHeld | exact hKd0); clear hK K; try dsimp only)
        first | (refine wpAnyH_take (i := 19) (v := ?_) rfl (by kernel_rfl) (by kernel_rfl) (by kernel_rfl) (fun _ _ _ h => h) (Or.inl ⟨by rfl, ?_⟩) hHeld ?_; rotate_left; (intro w hSw; (obtain ⟨o0, o1, _⟩ := hSw.o.two; clear hSw); (go_simp <;> with_reducible rfl)); simp only [List.getElem_toArray, List.getElem_cons_zero, List.getElem_cons_succ, Act.put, List.setIfInBounds_toArray, List.set_cons_zero, List.set_cons_succ]) | (refine wpAnyH_take (i := 19) (v := undef) rfl (by kernel_rfl) (by kernel_rfl) (by kernel_rfl) (fun _ _ _ h => h) (Or.inr ⟨by rfl, rfl⟩) hHeld ?_; simp only [List.getElem_toArray, List.getElem_cons_zero, List.getElem_cons_succ, Act.put, List.setIfInBounds_toArray, List.set_cons_zero, List.set_cons_succ])
        first | (refine wpAnyH_take (i := 20) (v := ?_) rfl (by kernel_rfl) (by kernel_rfl) (by kernel_rfl) (fun _ _ _ h => h) (Or.inl ⟨by rfl, ?_⟩) hHeld ?_; rotate_left; (intro w hSw; (obtain ⟨o0, o1, _⟩ := hSw.o.two; clear hSw); (go_simp <;> with_reducible rfl)); simp only [List.getElem_toArray, List.getElem_cons_zero, List.getElem_cons_succ, Act.put, List.setIfInBounds_toArray, List.set_cons_zero, List.set_cons_succ]) | (refine wpAnyH_take (i := 20) (v := undef) rfl (by kernel_rfl) (by kernel_rfl) (by kernel_rfl) (fun _ _ _ h => h) (Or.inr ⟨by rfl, rfl⟩) hHeld ?_; simp only [List.getElem_toArray, List.getElem_cons_zero, List.getElem_cons_succ, Act.put, List.setIfInBounds_toArray, List.set_cons_zero, List.set_cons_succ])
        first | (refine wpAnyH_take (i := 21) (v := ?_) rfl (by kernel_rfl) (by kernel_rfl) (by kernel_rfl) (fun _ _ _ h => h) (Or.inl ⟨by rfl, ?_⟩) hHeld ?_; rotate_left; (intro w hSw; (obtain ⟨o0, o1, _⟩ := hSw.o.two; clear hSw); (go_simp <;> with_reducible rfl)); simp only [List.getElem_toArray, List.getElem_cons_zero, List.getElem_cons_succ, Act.put, List.setIfInBounds_toArray, List.set_cons_zero, List.set_cons_succ]) | (refine wpAnyH_take (i := 21) (v := undef) rfl (by kernel_rfl) (by kernel_rfl) (by kernel_rfl) (fun _ _ _ h => h) (Or.inr ⟨by rfl, rfl⟩) hHeld ?_; simp only [List.getElem_toArray, List.getElem_cons_zero, List.getElem_cons_succ, Act.put, List.setIfInBounds_toArray, List.set_cons_zero, List.set_cons_succ])
        first | (refine wpAnyH_take (i := 22) (v := ?_) rfl (by kernel_rfl) (by kernel_rfl) (by kernel_rfl) (fun _ _ _ h => h) (Or.inl ⟨by rfl, ?_⟩) hHeld ?_; rotate_left; (intro w hSw; (obtain ⟨o0, o1, _⟩ := hSw.o.two; clear hSw); (go_simp <;> with_reducible rfl)); simp only [List.getElem_toArray, List.getElem_cons_zero, List.getElem_cons_succ, Act.put, List.setIfInBounds_toArray, List.set_cons_zero, List.set_cons_succ]) | (refine wpAnyH_take (i := 22) (v := undef) rfl (by kernel_rfl) (by kernel_rfl) (by kernel_rfl) (fun _ _ _ h => h) (Or.inr ⟨by rfl, rfl⟩) hHeld ?_; simp only [List.getElem_toArray, List.getElem_cons_zero, List.getElem_cons_succ, Act.put, List.setIfInBounds_toArray, List.set_cons_zero, List.set_cons_succ])
        (refine wpAnyH_take (i := 23) (v := ?_) rfl (by kernel_rfl) (by kernel_rfl) (by kernel_rfl) (fun _ _ _ h => h) (Or.inl ⟨by rfl, ?_⟩) hHeld ?_; rotate_left; (intro w hSw; (obtain ⟨o0, o1, _⟩ := hSw.o.two; clear hSw); (go_simp <;> with_reducible rfl)); simp only [List.getElem_toArray, List.getElem_cons_zero, List.getElem_cons_succ, Act.put, List.setIfInBounds_toArray, List.set_cons_zero, List.set_cons_succ])
        (refine wpAnyH_take (i := 24) (v := ?_) rfl (by kernel_rfl) (by kernel_rfl) (by kernel_rfl) (fun _ _ _ h => h) (Or.inl ⟨by rfl, ?_⟩) hHeld ?_; rotate_left; (intro w hSw; (obtain ⟨o0, o1, _⟩ := hSw.o.two; clear hSw); (go_simp <;> with_reducible rfl)); simp only [List.getElem_toArray, List.getElem_cons_zero, List.getElem_cons_succ, Act.put, List.setIfInBounds_toArray, List.set_cons_zero, List.set_cons_succ])
        refine wpAnyH_done (by kernel_rfl) ?_ _
        refine NoPanic.normal ?_
        have HF := hid hHeld.b
        clear hHeld hKd0
        go_wp2
        go_ret
        exact ⟨rfl, HF.out⟩
    · clear HLo HOa HOb
      go_wp2
      go_ret
      exact ⟨rfl, HK9.out.b⟩
end Go.Proofs.Ytnmjmknhlpmkoaa.BanO
