/- The program's walk over the places, with any function that is handed in: what holds ahead of the first number of the first place holds, step by step, behind the last place. Conditions: one to four places, none to eight pulses; what is handed in stays within what it says. -/
import Derived.Test.YtpoannaidojmoaaPulI
import Derived.Test.YtpoannaidojmoaaOwsG
namespace Go.Proofs.Ytpoannaidojmoaa.PulJ
open Go.ChangeShapes Go.WideShapes Go.ChangeAt Go.RowKit Go.Maps Go.MapKept Go.Proofs.Ytpoannaidojmoaa.Num Go.Proofs.Ytpoannaidojmoaa.Sli Go.Proofs.Ytpoannaidojmoaa.HalM Go.Proofs.Ytpoannaidojmoaa.PulM Go.Proofs.Ytpoannaidojmoaa.Blk Go.Proofs.Ytpoannaidojmoaa.App Go.Proofs.Ytpoannaidojmoaa.Div Go.Proofs.Ytpoannaidojmoaa.PulH Go.Proofs.Ytpoannaidojmoaa.PulI Go.Proofs.Ytpoannaidojmoaa.OwsG

theorem ct_tm {d p L m : Nat} (hp : p < d) (hm : m ≤ 2 * L) {a : Int} (ha : a = absV ((m : Int) - L)) : ctI ((d : Int) - p - 1) ((L : Int) - a) = (tm (d - 1 - p) L m : Int) := by
  subst ha
  have h1 := tm_at (d := d - 1 - p) (L := L) (x := (m : Int) - L) (by omega) (by omega)
  rw [show ((m : Int) - L + L).toNat = m by omega] at h1
  rw [h1]
  unfold ctI
  have e : ((L : Int) - absV ((m : Int) - L)).toNat = L - ((m : Int) - L).natAbs := by
    unfold absV; split <;> omega
  rw [e, show ((d : Int) - p - 1).toNat = d - 1 - p by omega]
theorem onMw {S : Nat → Prop} {w w' : World} {F : Int → Int → Int} {n b : Nat} (h : On S w w') (hm : MW F n w b) (hs : ¬ S b) : MW F n w' b := hm.same (h.block b hm.lt hs)
set_option maxRecDepth 100000 in
set_option maxHeartbeats 2000000 in
theorem walk_calls (N : FuncId) (c1 c2 : Value) (d k : Nat) (w : World) (S : Nat → Prop) (I : Nat → Nat → Nat → World → Prop) (hd : 1 ≤ d ∧ d ≤ 4) (hk : k ≤ 8) (hS : ∀ j, S j → j < w.heap.size)
    (qN : ∀ args w, (callFunc N args).run Try.prog w = .ok (.enter N args) w)
    (hst : ∀ p L m W W', I p L m W → Below W.heap.size W W' → I p L m W') (h0 : I 0 k 0 w)
    (hbd : ∀ p L m W, I p L m W → p < d → m ≤ 2 * L ∧ L ≤ k)
    (hstep : ∀ p L m W, I p L m W → p < d → On S w W → Calls Try.prog N #[.int .i64 (p : Int), .int .i64 ((m : Int) - L), .int .i64 (tm (d - 1 - p) L m : Int), c1, c2] W fun e w' => On S W w' ∧
      ((e = .returned (.bool true) ∧ I (p + 1) (L - ((m : Int) - L).natAbs) 0 w') ∨ (e = .returned (.bool false) ∧ I p L (m + 1) w'))) :
    Calls Try.prog 51 #[.agg #[.int .i64 (d : Int), .int .i64 (k : Int)], .func (.func N) #[] #[c1, c2]] w fun e w' => e = .returned (.tuple #[]) ∧ (∃ L, I d L 0 w') ∧ On S w w' := by
  have HC := hid (fun W => counts_calls d k W (by omega) (by omega))
  have HA := hid withoutSign_calls
  have HK0 := hid (Blk.new w #[.int .i64 (d : Int), .int .i64 (k : Int)] 49)
  have HB0 := hid ((Below.refl w.heap.size w).alloc (Nat.le_refl _) (.cells #[.int .i64 (d : Int), .int .i64 (k : Int)] 49))
  have HSt := hid hst
  have HS := hid hS
  have HStep := hid hstep
  have HBd := hid hbd
  have HI0 := hid (hst _ _ _ _ _ h0 HB0.out)
  clear hst h0 hbd hstep hS
  go_enter Try.func51, Try.ntmps51
  go_wp2_with fail
  refine wp_region_noPanic ?_
  refine wp_region_held_drew (S := fun W => Below (w.heap.size + 1) (w.alloc (.cells #[.int .i64 (d : Int), .int .i64 (k : Int)] 49)) W) (by kernel_rfl) ?_ (fun hHeld => ?_)
  · first | exact hK' | exact (Below.refl _ _).drew | assumption
  (refine wpAnyH_take (i := 0) (v := ?_) rfl (by kernel_rfl) (by kernel_rfl) (by kernel_rfl) (fun _ _ _ h => h) (Or.inl ⟨by rfl, ?_⟩) hHeld ?_; rotate_left; (intro w hSw; have ⟨c0, c1, _, _⟩ := (HK0.out.later (hSw.mono (by simp))).two; (go_simp <;> with_reducible rfl)); simp only [List.getElem_toArray, List.getElem_cons_zero, Act.put, List.setIfInBounds_toArray, List.set_cons_zero, List.set_cons_succ])
  (refine wpAnyH_take (i := 2) (v := ?_) rfl (by kernel_rfl) (by kernel_rfl) (by kernel_rfl) (fun _ _ _ h => h) (Or.inl ⟨by rfl, ?_⟩) hHeld ?_; rotate_left; (intro w hSw; have ⟨c0, c1, _, _⟩ := (HK0.out.later (hSw.mono (by simp))).two; (go_simp <;> with_reducible rfl)); simp only [List.getElem_toArray, List.getElem_cons_zero, List.getElem_cons_succ, Act.put, List.setIfInBounds_toArray, List.set_cons_zero, List.set_cons_succ])
  (refine wpAnyH_take (i := 3) (v := ?_) rfl (by kernel_rfl) (by kernel_rfl) (by kernel_rfl) (fun _ _ _ h => h) (Or.inl ⟨by rfl, ?_⟩) hHeld ?_; rotate_left; (intro w hSw; have ⟨c0, c1, _, _⟩ := (HK0.out.later (hSw.mono (by simp))).two; (go_simp <;> with_reducible rfl)); simp only [List.getElem_toArray, List.getElem_cons_zero, List.getElem_cons_succ, Act.put, List.setIfInBounds_toArray, List.set_cons_zero, List.set_cons_succ])
  (refine wpAnyH_ready (rs := [1]) (by kernel_rfl) (by simp) ?_; refine AllReadyH.cons rfl (fun K hK => ?_) AllReadyH.nil; go_simp; (refine (HC.out _).mono ?_; rintro e w3 ⟨b, rfl, ⟨n, hM⟩, hb1, hb3⟩; have hK' := hHeld.trans (hb3.mono (by show w.heap.size + 1 ≤ (w.alloc _).heap.size; rw [World.size_alloc]; exact Nat.le_refl _))); refine hK.out _ _ ?_ (fun hHeld => ?_); (first | exact hK' | exact (Below.refl _ _).drew | assumption); clear hK K; try dsimp only)
  refine wpAnyH_more (S' := fun W => Below (w.heap.size + 1) (w.alloc (.cells #[.int .i64 (d : Int), .int .i64 (k : Int)] 49)) W ∧ MW (cF k (d + 1) 0) n W b) (fun _ h => h.1) _ _ _ _ ?_
  replace hHeld := And.intro hHeld hM
  (refine wpAnyH_take (i := 4) (v := ?_) rfl (by kernel_rfl) (by kernel_rfl) (by kernel_rfl) (fun _ _ _ h => h) (Or.inl ⟨by rfl, ?_⟩) hHeld ?_; rotate_left; (intro w hSw; (have ⟨c0, c1, _, _⟩ := (HK0.out.later (hSw.1.mono (by simp))).two); (go_simp <;> with_reducible rfl)); simp only [List.getElem_toArray, List.getElem_cons_zero, List.getElem_cons_succ, Act.put, List.setIfInBounds_toArray, List.set_cons_zero, List.set_cons_succ])
  (refine wpAnyH_take (i := 5) (v := ?_) rfl (by kernel_rfl) (by kernel_rfl) (by kernel_rfl) (fun _ _ _ h => h) (Or.inl ⟨by rfl, ?_⟩) hHeld ?_; rotate_left; (intro w hSw; (have ⟨c0, c1, _, _⟩ := (HK0.out.later (hSw.1.mono (by simp))).two); (go_simp <;> with_reducible rfl)); simp only [List.getElem_toArray, List.getElem_cons_zero, List.getElem_cons_succ, Act.put, List.setIfInBounds_toArray, List.set_cons_zero, List.set_cons_succ])
  refine wpAnyH_done (by kernel_rfl) ?_ _
  refine NoPanic.normal ?_
  have hbw : w.heap.size < b := by
    have : (w.alloc (.cells #[.int .i64 (d : Int), .int .i64 (k : Int)] 49)).heap.size ≤ b := hb1
    rw [World.size_alloc] at this; omega
  have HOn3 : Hid (On S w w3) := hid (On.of_below (HB0.out.trans (hHeld.1.mono (by simp))))
  have HK3 := hid (HK0.out.later (hHeld.1.mono (by simp)))
  have HM3 := hid hHeld.2
  have HI3 := hid (HSt.out _ _ _ _ _ HI0.out (hHeld.1.mono (by simp)))
  clear hHeld hM hb1 hb3 HC HI0 HB0 hK' HK0
  obtain ⟨r0, r1, _, _⟩ := HK3.out.two
  go_wp2
  clear r0 r1
  go_loopw [5, 15] (fun l i wr => ∃ p L : Nat, l = .int .i64 (L : Int) ∧ i = .int .i64 (p : Int) ∧ p ≤ d ∧ Hid (I p L 0 wr) ∧ Hid (MW (cF k (d + 1) 0) n wr b) ∧ Hid (Blk wr w.heap.size #[.int .i64 (d : Int), .int .i64 (k : Int)] 49) ∧ Hid (On S w wr)) (fun _ i _ => 5 - (intOf i).toNat)
  case atStart => exact ⟨0, k, rfl, rfl, by omega, HI3, HM3, HK3, HOn3⟩
  case round =>
    obtain ⟨p, L, rfl, rfl, hp, HI, HM, HK, HO⟩ := hrel
    clear HI3 HM3 HK3 HOn3
    by_cases hlt : p < d
    · obtain ⟨_, hLk⟩ := HBd.out _ _ _ _ HI.out hlt
      go_wp2
      go_loopw [5, 7] (fun l v wq => ∃ (m : Nat) (x : Int), l = .int .i64 (L : Int) ∧ v = .int .i64 x ∧ Hid (x = (m : Int) - L) ∧ Hid (I p L m wq) ∧ Hid (MW (cF k (d + 1) 0) n wq b) ∧ Hid (Blk wq w.heap.size #[.int .i64 (d : Int), .int .i64 (k : Int)] 49) ∧ Hid (On S w wq)) (fun _ v _ => (L + 1 - intOf v).toNat)
      case atStart => exact ⟨0, _, rfl, rfl, (by show -(L : Int) = _; omega), HI, HM, HK, HO⟩
      case round =>
        clear HI HM HK HO
        obtain ⟨m, x, rfl, rfl, HX, HI, HM, HK, HO⟩ := hrel
        obtain ⟨hm, _⟩ := HBd.out _ _ _ _ HI.out hlt
        have hx := HX.out
        have hxL : x ≤ (L : Int) := by omega
        have hxl : -(L : Int) ≤ x := by omega
        have hab := absV_bd x
        have hct := ct_tm (d := d) (p := p) (L := L) (m := m) hlt hm rfl
        rw [← hx] at hct
        have hlk := MC HM.out (x := (d : Int) - p - 1) (y := (L : Int) - absV x) ⟨by omega, by omega⟩ ⟨by omega, by omega⟩ (by omega) (by omega)
        rw [hct] at hlk
        have HCall := HStep.out _ _ _ _ HI.out hlt HO.out
        have HCl := hid HCall
        have HAx := hid (fun W => HA.out x W (by omega) (by omega))
        obtain ⟨r0, r1, _, _⟩ := HK.out.two
        have HAb : Hid ((L : Int) - absV x = ((L - x.natAbs : Nat) : Int)) := hid (by unfold absV; split <;> omega)
        rw [← hx] at HCl
        clear hct HCall hx hm
        generalize absV x = a at *
        generalize ((tm (d - 1 - p) L m : Nat) : Int) = t at *
        go_wp2_with fail
        refine (HAx.out _).mono ?_
        rintro e w4 ⟨rfl, rfl⟩
        go_wp2_with fail
        refine HCl.out.mono ?_
        rintro e w5 ⟨hO5, ⟨rfl, hI5⟩ | ⟨rfl, hI5⟩⟩
        · have HO5 := hid (HO.out.trans hO5)
          have HI5 := hid hI5
          have HM5 := hid (onMw hO5 HM.out (fun e => by have := HS.out _ e; omega))
          have HK5 := hid (hO5.blk HK.out (fun e => by have := HS.out _ e; omega))
          clear hO5 hI5 HO HI HM HK hlk r0 r1
          go_wp2
          go_roundw
          case rel => exact ⟨p + 1, L - x.natAbs, by rw [HAb.out], by go_num, by omega, HI5, HM5, HK5, HO5⟩
          case measure => simp [intOf]; omega
        · have HO5 := hid (HO.out.trans hO5)
          have HI5 := hid hI5
          have HM5 := hid (onMw hO5 HM.out (fun e => by have := HS.out _ e; omega))
          have HK5 := hid (hO5.blk HK.out (fun e => by have := HS.out _ e; omega))
          clear hO5 hI5 HO HI HM HK hlk r0 r1
          go_wp2
          go_roundw
          case rel => exact ⟨m + 1, x + 1, rfl, by go_num, by have := HX.out; show x + 1 = ((m + 1 : Nat) : Int) - L; omega, HI5, HM5, HK5, HO5⟩
          case measure => simp [intOf]; omega
    · obtain rfl : p = d := by omega
      go_wp2
      go_end0
      exact ⟨rfl, ⟨L, HI.out⟩, HO.out⟩
end Go.Proofs.Ytpoannaidojmoaa.PulJ
