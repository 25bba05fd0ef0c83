/- The model halves a list. Conditions: the list has 2, 4, 8 or 16 numbers, none of them beyond 68719476736. -/
import Derived.Test.YtodfkicmmcfkaaaHalM
import Derived.Test.YtodfkicmmcfkaaaIntA
import Derived.Test.YtodfkicmmcfkaaaTurS
import Derived.Test.YtodfkicmmcfkaaaMixS
import Derived.Deep.RegionHeld3
import Derived.Deep.CutBlock
import Derived.Deep.DeepCutAuto
namespace Go.Proofs.Ytodfkicmmcfkaaa.HalS
open Go.ChangeShapes Go.WideShapes Go.ChangeAt Go.RowKit Go.Proofs.Ytodfkicmmcfkaaa.Num Go.Proofs.Ytodfkicmmcfkaaa.Sli Go.Proofs.Ytodfkicmmcfkaaa.App Go.Proofs.Ytodfkicmmcfkaaa.Div Go.Proofs.Ytodfkicmmcfkaaa.TurM Go.Proofs.Ytodfkicmmcfkaaa.HalM Go.Proofs.Ytodfkicmmcfkaaa.IntL Go.Proofs.Ytodfkicmmcfkaaa.IntA Go.Proofs.Ytodfkicmmcfkaaa.TurS Go.Proofs.Ytodfkicmmcfkaaa.MixS

/-- Two lists of m numbers, each in a block of its own. -/
structure HK (w : World) (m gs cs gd cd : Nat) (S D : List Int) (W : World) : Prop where
  ne : gs ≠ gd
  s : OwI w.heap.size W (.slice (some ⟨gs, 0, none⟩) m cs) S
  d : OwI w.heap.size W (.slice (some ⟨gd, 0, none⟩) m cd) D
  b : Below w.heap.size w W
theorem HK.drew {w : World} {m gs cs gd cd : Nat} {S D : List Int} {W : World} (h : HK w m gs cs gd cd S D W) : HK w m gs cs gd cd S D W.drew := ⟨h.ne, h.s, h.d, h.b.drew⟩
theorem HK.new (w : World) : HK w 0 w.heap.size 0 (w.heap.size + 1) 0 [] [] ((w.alloc (.cells #[] 2)).alloc (.cells #[] 2)) := by
  refine ⟨by omega, (ow_new .i64 2 w.heap.size w (Nat.le_refl _)).alloc _, ?_, bmore (bmore (Below.refl _ _) _) _⟩
  have := ow_new .i64 2 w.heap.size (w.alloc (.cells #[] 2)) (by simp)
  rwa [World.size_alloc] at this
theorem sz4_le {n : Nat} (h : sz4 n) : 2 ≤ n ∧ n ≤ 16 := by rcases h with rfl | rfl | rfl | rfl <;> omega
theorem blk_of {k : IntKind} {t base : Nat} {w : World} {g n cap : Nat} {ys : List Int} (h : Ow k t base w (.slice (some ⟨g, 0, none⟩) n cap) ys) : base ≤ g ∧ g < w.heap.size := h.block g rfl

set_option maxHeartbeats 4000000 in
theorem l6Halve_calls (v : Value) (l : List Int) (M : Int) (w : World) (h : Sl .i64 w v l) (hn : sz4 l.length) (hl : lim M l) (hM : M ≤ 34359738368) :
    Calls Try.prog 76 #[v] w fun e w' => ∃ gs cs gd cd, e = .returned (.tuple #[.slice (some ⟨gs, 0, none⟩) (l.length / 2 : Nat) cs, .slice (some ⟨gd, 0, none⟩) (l.length / 2 : Nat) cd]) ∧ HK w (l.length / 2) gs cs gd cd (hS l) (hD l) w' := by
  obtain ⟨n2, n16⟩ := sz4_le hn
  have Hn := hid hn
  have HL := hid hl
  have HX := hid l5Mix_calls
  have hne : l ≠ [] := by intro e; rw [e] at n2; simp at n2
  have h0 := hid (HK.new w)
  obtain ⟨a, cap, rfl, hc⟩ := h
  obtain ⟨b, off, rfl, hbl, hcell⟩ := hc hne
  have HC := hid hcell
  have HSe := hid (fun i (hi : i < l.length / 2) => show hSe l i = l.getD (l.length - 1 - i) 0 + (l.getD i 0 - l.getD (l.length - 1 - i) 0) / 2 from rfl)
  have HDe := hid (fun i (hi : i < l.length / 2) => show hDe l i = l.getD i 0 - l.getD (l.length - 1 - i) 0 from rfl)
  clear hc hcell hne hn hl
  have hm0 : ((l.length : Int)).tdiv 2 = ((l.length / 2 : Nat) : Int) := by rcases Hn.out with e | e | e | e <;> rw [e] <;> rfl
  have hm1 : 2 * (l.length / 2) = l.length := sz4_even Hn.out
  have ES := hid (show mkL (l.length / 2) (hSe l) = hS l from rfl)
  have ED := hid (show mkL (l.length / 2) (hDe l) = hD0 l from rfl)
  generalize l.length / 2 = m at *
  generalize hln : l.length = n at *
  have Hln := hid hln
  clear hln
  go_enter Try.func76, Try.ntmps76
  go_wp2_with fail
  go_loopw [5, 6, 7] (fun s d i wr => ∃ k gs cs gd cd : Nat, i = .int .i64 (k : Int) ∧ s = .slice (some ⟨gs, 0, none⟩) k cs ∧ d = .slice (some ⟨gd, 0, none⟩) k cd ∧ k ≤ m ∧ Hid (HK w k gs cs gd cd (mkL k (hSe l)) (mkL k (hDe l)) wr)) (fun _ _ i _ => m - (intOf i).toNat)
  case atStart => exact ⟨0, _, _, _, _, rfl, rfl, rfl, Nat.zero_le _, h0.out⟩
  case round =>
    obtain ⟨k, gs, cs, gd, cd, rfl, rfl, rfl, hk, hK⟩ := hrel
    clear h0
    by_cases hlt : k < m
    · obtain ⟨q, hq⟩ : ∃ q : Nat, n - 1 - k = q := ⟨_, rfl⟩
      have hqI : (n : Int) - 1 - (k : Int) = (q : Int) := by omega
      have c1 := (hK.out.b.cell (p := ⟨b, off + k, none⟩) hbl).trans (HC.out k (by omega))
      have c2 := (hK.out.b.cell (p := ⟨b, off + q, none⟩) hbl).trans (HC.out q (by omega))
      have hx := HL.out k
      have hy := HL.out q
      have es := HSe.out k hlt
      have ed := HDe.out k hlt
      rw [hq] at es ed
      have hkm : (k : Int) < (m : Int) := by omega
      have hkn : (k : Int) < (n : Int) := by omega
      have hqn : (q : Int) < (n : Int) := by omega
      clear hq
      generalize l.getD k 0 = x at *
      generalize l.getD q 0 = y at *
      have HE := hid (And.intro es ed)
      clear es ed
      go_wp2_with fail
      have e1 : IntKind.i64.wrap ((n : Int) - 1) = (n : Int) - 1 := wrapk_of (by omega) (by omega)
      have e2 : IntKind.i64.wrap (q : Int) = (q : Int) := wrapk_of (by omega) (by omega)
      have hD := hK.out.drew
      have hA : HK w k gs cs gd cd (mkL k (hSe l)) (mkL k (hDe l)) wr.drew ∧ wr.drew.cell? ⟨b, off + k, none⟩ = some (.int .i64 x) ∧ wr.drew.cell? ⟨b, off + q, none⟩ = some (.int .i64 y) := ⟨hD, c1, c2⟩
      refine wp_region_noPanic ?_
      refine wp_region_held_drew (S := fun W => HK w k gs cs gd cd (mkL k (hSe l)) (mkL k (hDe l)) W ∧ W.cell? ⟨b, off + k, none⟩ = some (.int .i64 x) ∧ W.cell? ⟨b, off + q, none⟩ = some (.int .i64 y)) (by kernel_rfl) ?_ (fun hHeld => ?_)
      · assumption
      (refine wpAnyH_take (i := 0) (v := ?_) rfl (by kernel_rfl) (by kernel_rfl) (by kernel_rfl) (fun _ _ _ h => h) (Or.inl ⟨by rfl, ?_⟩) hHeld ?_; rotate_left; (intro w hSw; (obtain ⟨_, s1, s2⟩ := hSw); (go_simp <;> with_reducible rfl)); simp only [List.getElem_toArray, List.getElem_cons_zero, Act.put, List.setIfInBounds_toArray, List.set_cons_zero, List.set_cons_succ])
      (refine wpAnyH_take (i := 1) (v := ?_) rfl (by kernel_rfl) (by kernel_rfl) (by kernel_rfl) (fun _ _ _ h => h) (Or.inl ⟨by rfl, ?_⟩) hHeld ?_; rotate_left; (intro w hSw; (obtain ⟨_, s1, s2⟩ := hSw); (go_simp <;> with_reducible rfl)); simp only [List.getElem_toArray, List.getElem_cons_zero, List.getElem_cons_succ, Act.put, List.setIfInBounds_toArray, List.set_cons_zero, List.set_cons_succ])
      (refine wpAnyH_take (i := 2) (v := ?_) rfl (by kernel_rfl) (by kernel_rfl) (by kernel_rfl) (fun _ _ _ h => h) (Or.inl ⟨by rfl, ?_⟩) hHeld ?_; rotate_left; (intro w hSw; (obtain ⟨_, s1, s2⟩ := hSw); (go_simp <;> with_reducible rfl)); simp only [List.getElem_toArray, List.getElem_cons_zero, List.getElem_cons_succ, Act.put, List.setIfInBounds_toArray, List.set_cons_zero, List.set_cons_succ])
      (refine wpAnyH_take (i := 3) (v := ?_) rfl (by kernel_rfl) (by kernel_rfl) (by kernel_rfl) (fun _ _ _ h => h) (Or.inl ⟨by rfl, ?_⟩) hHeld ?_; rotate_left; (intro w hSw; (obtain ⟨_, s1, s2⟩ := hSw); (go_simp <;> with_reducible rfl)); simp only [List.getElem_toArray, List.getElem_cons_zero, List.getElem_cons_succ, Act.put, List.setIfInBounds_toArray, List.set_cons_zero, List.set_cons_succ])
      (refine wpAnyH_take (i := 4) (v := ?_) rfl (by kernel_rfl) (by kernel_rfl) (by kernel_rfl) (fun _ _ _ h => h) (Or.inl ⟨by rfl, ?_⟩) hHeld ?_; rotate_left; (intro w hSw; (obtain ⟨_, s1, s2⟩ := hSw); (go_simp <;> with_reducible rfl)); simp only [List.getElem_toArray, List.getElem_cons_zero, List.getElem_cons_succ, Act.put, List.setIfInBounds_toArray, List.set_cons_zero, List.set_cons_succ])
      (refine wpAnyH_take (i := 5) (v := ?_) rfl (by kernel_rfl) (by kernel_rfl) (by kernel_rfl) (fun _ _ _ h => h) (Or.inl ⟨by rfl, ?_⟩) hHeld ?_; rotate_left; (intro w hSw; (obtain ⟨_, s1, s2⟩ := hSw); (go_simp <;> with_reducible rfl)); simp only [List.getElem_toArray, List.getElem_cons_zero, List.getElem_cons_succ, Act.put, List.setIfInBounds_toArray, List.set_cons_zero, List.set_cons_succ])
      (refine wpAnyH_take (i := 6) (v := ?_) rfl (by kernel_rfl) (by kernel_rfl) (by kernel_rfl) (fun _ _ _ h => h) (Or.inl ⟨by rfl, ?_⟩) hHeld ?_; rotate_left; (intro w hSw; (obtain ⟨_, s1, s2⟩ := hSw); (go_simp <;> with_reducible rfl)); simp only [List.getElem_toArray, List.getElem_cons_zero, List.getElem_cons_succ, Act.put, List.setIfInBounds_toArray, List.set_cons_zero, List.set_cons_succ])
      (refine wpAnyH_take (i := 7) (v := ?_) rfl (by kernel_rfl) (by kernel_rfl) (by kernel_rfl) (fun _ _ _ h => h) (Or.inl ⟨by rfl, ?_⟩) hHeld ?_; rotate_left; (intro w hSw; (obtain ⟨_, s1, s2⟩ := hSw); (go_simp <;> with_reducible rfl)); simp only [List.getElem_toArray, List.getElem_cons_zero, List.getElem_cons_succ, Act.put, List.setIfInBounds_toArray, List.set_cons_zero, List.set_cons_succ])
      (refine wpAnyH_take (i := 8) (v := ?_) rfl (by kernel_rfl) (by kernel_rfl) (by kernel_rfl) (fun _ _ _ h => h) (Or.inl ⟨by rfl, ?_⟩) hHeld ?_; rotate_left; (intro w hSw; (obtain ⟨_, s1, s2⟩ := hSw); (go_simp <;> with_reducible rfl)); simp only [List.getElem_toArray, List.getElem_cons_zero, List.getElem_cons_succ, Act.put, List.setIfInBounds_toArray, List.set_cons_zero, List.set_cons_succ])
      (refine wpAnyH_take (i := 9) (v := ?_) rfl (by kernel_rfl) (by kernel_rfl) (by kernel_rfl) (fun _ _ _ h => h) (Or.inl ⟨by rfl, ?_⟩) hHeld ?_; rotate_left; (intro w hSw; (obtain ⟨_, s1, s2⟩ := hSw); (go_simp <;> with_reducible rfl)); simp only [List.getElem_toArray, List.getElem_cons_zero, List.getElem_cons_succ, Act.put, List.setIfInBounds_toArray, List.set_cons_zero, List.set_cons_succ])
      (refine wpAnyH_take (i := 10) (v := ?_) rfl (by kernel_rfl) (by kernel_rfl) (by kernel_rfl) (fun _ _ _ h => h) (Or.inl ⟨by rfl, ?_⟩) hHeld ?_; rotate_left; (intro w hSw; (obtain ⟨_, s1, s2⟩ := hSw); (go_simp <;> with_reducible rfl)); simp only [List.getElem_toArray, List.getElem_cons_zero, List.getElem_cons_succ, Act.put, List.setIfInBounds_toArray, List.set_cons_zero, List.set_cons_succ])
      (refine wpAnyH_ready (rs := [11]) (by kernel_rfl) (by simp) ?_; refine AllReadyH.cons rfl (fun K hK => ?_) AllReadyH.nil; go_simp; (refine (HX.out _ _ _ (by omega) (by omega)).mono ?_; rintro e w9 ⟨rfl, rfl⟩); refine hK.out _ _ ?_ (fun hHeld => ?_); (assumption); clear hK K; try dsimp only)
      (refine wpAnyH_take (i := 12) (v := ?_) rfl (by kernel_rfl) (by kernel_rfl) (by kernel_rfl) (fun _ _ _ h => h) (Or.inl ⟨by rfl, ?_⟩) hHeld ?_; rotate_left; (intro w hSw; (obtain ⟨_, s1, s2⟩ := hSw); (go_simp <;> with_reducible rfl)); simp only [List.getElem_toArray, List.getElem_cons_zero, List.getElem_cons_succ, Act.put, List.setIfInBounds_toArray, List.set_cons_zero, List.set_cons_succ])
      (refine wpAnyH_take (i := 13) (v := ?_) rfl (by kernel_rfl) (by kernel_rfl) (by kernel_rfl) (fun _ _ _ h => h) (Or.inl ⟨by rfl, ?_⟩) hHeld ?_; rotate_left; (intro w hSw; (obtain ⟨_, s1, s2⟩ := hSw); (go_simp <;> with_reducible rfl)); simp only [List.getElem_toArray, List.getElem_cons_zero, List.getElem_cons_succ, Act.put, List.setIfInBounds_toArray, List.set_cons_zero, List.set_cons_succ])
      (refine wpAnyH_take (i := 14) (v := ?_) rfl (by kernel_rfl) (by kernel_rfl) (by kernel_rfl) (fun _ _ _ h => h) (Or.inl ⟨by rfl, ?_⟩) hHeld ?_; rotate_left; (intro w hSw; (obtain ⟨_, s1, s2⟩ := hSw); (go_simp <;> with_reducible rfl)); simp only [List.getElem_toArray, List.getElem_cons_zero, List.getElem_cons_succ, Act.put, List.setIfInBounds_toArray, List.set_cons_zero, List.set_cons_succ])
      (refine wpAnyH_take (i := 15) (v := ?_) rfl (by kernel_rfl) (by kernel_rfl) (by kernel_rfl) (fun _ _ _ h => h) (Or.inl ⟨by rfl, ?_⟩) hHeld ?_; rotate_left; (intro w hSw; (obtain ⟨_, s1, s2⟩ := hSw); (go_simp <;> with_reducible rfl)); simp only [List.getElem_toArray, List.getElem_cons_zero, List.getElem_cons_succ, Act.put, List.setIfInBounds_toArray, List.set_cons_zero, List.set_cons_succ])
      (refine wpAnyH_take (i := 16) (v := ?_) rfl (by kernel_rfl) (by kernel_rfl) (by kernel_rfl) (fun _ _ _ h => h) (Or.inl ⟨by rfl, ?_⟩) hHeld ?_; rotate_left; (intro w hSw; (obtain ⟨_, s1, s2⟩ := hSw); (go_simp <;> with_reducible rfl)); simp only [List.getElem_toArray, List.getElem_cons_zero, List.getElem_cons_succ, Act.put, List.setIfInBounds_toArray, List.set_cons_zero, List.set_cons_succ])
      refine wpAnyH_done (by kernel_rfl) ?_ _
      refine NoPanic.normal ?_
      have HB := hid hHeld.1
      have hbs := blk_of HB.out.s
      have hbd := blk_of HB.out.d
      have hne := HB.out.ne
      have Hyl : Hid ((mkL k (hSe l)).length = k ∧ (mkL k (hDe l)).length = k) := ⟨mkL_len _ _, mkL_len _ _⟩
      have ES1 := hid (mkL_succ k (hSe l))
      have ED1 := hid (mkL_succ k (hDe l))
      clear hHeld hA hD hK c1 c2
      rw [← HE.out.1, ← HE.out.2]
      clear HE
      generalize hSe l k = xs at *
      generalize hDe l k = xd at *
      generalize wr.drew = W1 at *
      have hsw := HB.out.b.size
      have HO1 := hid (HB.out.s.alloc (.cells #[.int .i64 xs] 2))
      have HQ1 := hid (HB.out.d.alloc (.cells #[.int .i64 xs] 2))
      have HL1 := hid (bmore HB.out.b (.cells #[.int .i64 xs] 2))
      clear HB
      go_wp2_with (at_builtin; refine wpList_append_ints _ rfl _ _ rfl w.heap.size _ (mkL k (hSe l)) rfl HO1.out _ [xs] rfl (sl_lit _ _ _ _ _ _ rfl rfl) (by simp) ?c1 ?c2 ?_)
      case c1 => rw [Hyl.out.1]; simp only [List.length_singleton]; omega
      case c2 => simp; omega
      intro g5 cap5 n5 w5 hn5 ho5 hg5 hat5
      have Hn5 : Hid (n5 = k + 1) := by show _ = _; have := Hyl.out.1; first | omega | (simp only [List.length_append, List.length_singleton] at hn5; omega)
      have hne5 : g5 ≠ gd := by
        rcases hat5 with h | h
        · have : gs = g5 := by simpa [Value.ownBlock] using h
          omega
        · omega
      have HD5 := hid (Ow.keptNe HQ1.out hg5 (fun j e => by simp [Value.ownBlock] at e ⊢; omega))
      have HL5 := hid (HL1.out.trans (below_of_grown hg5 (by simp; omega) (fun i e => (HO1.out.block i e).1)))
      have HS5 := hid ho5
      have hs5 : W1.heap.size + 1 ≤ w5.heap.size := by have := hg5.size; simpa using this
      have hb5 := blk_of HS5.out
      clear hn5 ho5 hg5 hat5 HO1 HQ1 HL1
      have HO6 := hid (HD5.out.alloc (.cells #[.int .i64 xd] 2))
      have HQ6 := hid (HS5.out.alloc (.cells #[.int .i64 xd] 2))
      have HL6 := hid (bmore HL5.out (.cells #[.int .i64 xd] 2))
      clear HD5 HS5 HL5
      go_wp2_with (at_builtin; refine wpList_append_ints _ rfl _ _ rfl w.heap.size _ (mkL k (hDe l)) rfl HO6.out _ [xd] rfl (sl_lit _ _ _ _ _ _ rfl rfl) (by simp) ?c1 ?c2 ?_)
      case c1 => rw [Hyl.out.2]; simp only [List.length_singleton]; omega
      case c2 => simp; omega
      intro g7 cap7 n7 w7 hn7 ho7 hg7 hat7
      have Hn7 : Hid (n7 = k + 1) := by show _ = _; have := Hyl.out.2; first | omega | (simp only [List.length_append, List.length_singleton] at hn7; omega)
      have hne7 : g5 ≠ g7 := by
        rcases hat7 with h | h
        · have : gd = g7 := by simpa [Value.ownBlock] using h
          omega
        · omega
      have HK7 : Hid (HK w (k + 1) g5 cap5 g7 cap7 (mkL (k + 1) (hSe l)) (mkL (k + 1) (hDe l)) w7) := by
        have hS7 := Ow.keptNe HQ6.out hg7 (fun j e => by simp [Value.ownBlock] at e ⊢; omega)
        have hL7 := HL6.out.trans (below_of_grown hg7 (by simp; omega) (fun i e => (HO6.out.block i e).1))
        rw [Hn5.out] at hS7
        rw [Hn7.out] at ho7
        refine ⟨hne7, ?_, ?_, hL7⟩
        · rw [ES1.out]; exact hS7
        · rw [ED1.out]; exact ho7
      have e5 := Hn5.out
      have e7 := Hn7.out
      subst e5 e7
      clear hn7 ho7 hg7 hat7 HO6 HQ6 HL6 Hn5 Hn7
      go_wp2
      go_roundw
      case rel => exact ⟨k + 1, g5, cap5, g7, cap7, by go_num, rfl, rfl, by omega, HK7.out⟩
      case measure => simp [intOf]; omega
    · obtain rfl : k = m := by omega
      have hKm : Hid (HK w k gs cs gd cd (hS l) (hD0 l) wr) := by rw [← ES.out, ← ED.out]; exact hK
      clear hK hlt hk ES
      by_cases h2 : n = 2
      · have e2 : hD l = hD0 l := prL_two _ (by rw [Hln.out]; omega) (by rw [← ED.out, mkL_len, Hln.out]; omega)
        have HE : Hid (hD l = hD0 l) := e2
        have h2I : (n : Int) = 2 := by omega
        clear e2 HC HSe HDe HX HL hm0
        subst h2
        clear h2I
        go_wp2
        exact bodyPost_ret (v := .tuple #[.slice (some ⟨gs, 0, none⟩) k cs, .slice (some ⟨gd, 0, none⟩) k cd]) (by simp [results, Try.results76, go_sem]) rfl ⟨gs, cs, gd, cd, rfl, by rw [HE.out]; exact hKm.out⟩
      · have h2I : (2 : Int) < (n : Int) := by omega
        have HT := hid l5Turn_calls
        have H4 : Hid (n / 2 = k) := by show _ = _; omega
        have hr0 : ((n : Int)).tdiv 4 = ((n / 4 : Nat) : Int) := by rcases Hn.out with e | e | e | e <;> rw [e] <;> rfl
        have hr1 : k = 2 * (n / 4) := by rcases Hn.out with e | e | e | e <;> omega
        have HRow := hid (fun i (hi : i < n / 4) => row_small Hn.out (by omega) hi)
        have HP := hid (fun i (hi : i < n / 4) => And.intro (prE_lo (F := ahF n) (by omega) hi (hD0 l)) (prE_hi (F := ahF n) Hn.out (by omega) hi (hD0 l)))
        rw [H4.out] at HP
        have HEnd : Hid (pS k (n / 4) (prE (ahF n) n (hD0 l)) (fun i => (hD0 l).getD i 0) = hD l) := by
          have := prL_state (F := ahF n) Hn.out (by omega) (hD0 l)
          rw [H4.out] at this
          show _ = _
          rw [this]; unfold hD; rw [Hln.out]
        have HLd := hid (lim_hD0 HL.out)
        have HZ : Hid (HK w k gs cs gd cd (hS l) (pS k 0 (prE (ahF n) n (hD0 l)) (fun i => (hD0 l).getD i 0)) wr) := by
          have : (hD0 l).length = k := by rw [← ED.out, mkL_len]
          rw [pS_zero, ← this, mkL_self, this]; exact hKm
        have hlast : ∀ k', k' = n / 4 → k' = n / 4 := fun _ h => h
        clear HC HSe HDe HX hKm hlast
        generalize prE (ahF n) n (hD0 l) = vv at *
        generalize hoo : (fun i => (hD0 l).getD i 0) = oo at *
        have HO : Hid (∀ i, oo i = (hD0 l).getD i 0) := fun i => by rw [← hoo]
        clear hoo
        generalize n / 4 = r at *
        go_wp2_with fail
        go_loopw [10] (fun i wq => ∃ j : Nat, i = .int .i64 (j : Int) ∧ j ≤ r ∧ Hid (HK w k gs cs gd cd (hS l) (pS k j vv oo) wq)) (fun i _ => r - (intOf i).toNat)
        case atStart => exact ⟨0, rfl, Nat.zero_le _, HZ.out⟩
        case round =>
          obtain ⟨j, rfl, hj, hK⟩ := hrel
          clear HZ
          by_cases hlt : j < r
          · obtain ⟨q, hq⟩ : ∃ q : Nat, k - 1 - j = q := ⟨_, rfl⟩
            have hqI : (k : Int) - 1 - (j : Int) = (q : Int) := by omega
            have hne : j ≠ q := by omega
            have hlen : k = (pS k j vv oo).length := (pS_len _ _ _ _).symm
            obtain ⟨c1, f1⟩ := hK.out.d.cellAt hlen j (by rw [pS_len]; omega)
            obtain ⟨c2, f2⟩ := hK.out.d.cellAt hlen q (by rw [pS_len]; omega)
            rw [pS_lo vv oo (by omega), HO.out j] at c1
            rw [← hq, pS_hi vv oo (by omega), HO.out (k - 1 - j), hq] at c2
            obtain ⟨p1, p2⟩ := HP.out j hlt
            rw [hq] at p1 p2
            have hr := HRow.out j hlt
            have hx := HLd.out j
            have hy := HLd.out q
            have HTj := hid (fun W => l5Turn_calls (n : Int) (j : Int) ((hD0 l).getD j 0) ((hD0 l).getD q 0) W hr.1 (by omega) (by omega))
            have e1' : (ahF n j ((hD0 l).getD j 0) ((hD0 l).getD q 0)).1 = ahA (pV (n : Int) (j : Int)) (uV (n : Int) (j : Int)) ((hD0 l).getD j 0) ((hD0 l).getD q 0) := rfl
            have e2' : (ahF n j ((hD0 l).getD j 0) ((hD0 l).getD q 0)).2 = ahB (pV (n : Int) (j : Int)) (uV (n : Int) (j : Int)) ((hD0 l).getD j 0) ((hD0 l).getD q 0) := rfl
            rw [e1'] at p1
            rw [e2'] at p2
            rw [← p1, ← p2] at HTj
            have hstep := pS_step (m := k) (k := j) vv oo
            rw [hq] at hstep
            have HStep := hid hstep
            have Hlen := hid hlen
            have e1 : IntKind.i64.wrap ((k : Int)) = (k : Int) := wrapk_of (by omega) (by omega)
            have e2 : IntKind.i64.wrap ((k : Int) - 1) = (k : Int) - 1 := wrapk_of (by omega) (by omega)
            have e3 : IntKind.i64.wrap (q : Int) = (q : Int) := wrapk_of (by omega) (by omega)
            have hk8 : (k : Int) ≤ 8 ∧ (r : Int) ≤ 4 := by omega
            have hjr : (j : Int) < (r : Int) := by omega
            have hjk : (j : Int) < (k : Int) := by omega
            have hqk : (q : Int) < (k : Int) := by omega
            clear p1 p2 e1' e2' hr hx hy hstep hlen f1 f2 hq HT HP HRow HLd hr1 hm1
            generalize (hD0 l).getD j 0 = x at *
            generalize (hD0 l).getD q 0 = y at *
            have hA : HK w k gs cs gd cd (hS l) (pS k j vv oo) wr.drew ∧ wr.drew.cell? ⟨gd, j, none⟩ = some (.int .i64 x) ∧ wr.drew.cell? ⟨gd, q, none⟩ = some (.int .i64 y) := ⟨hK.out.drew, c1, c2⟩
            go_wp2_with fail
            refine wp_region_noPanic ?_
            refine wp_region_held_drew (S := fun W => HK w k gs cs gd cd (hS l) (pS k j vv oo) W ∧ W.cell? ⟨gd, j, none⟩ = some (.int .i64 x) ∧ W.cell? ⟨gd, q, none⟩ = some (.int .i64 y)) (by kernel_rfl) ?_ (fun hHeld => ?_)
            · assumption
            (refine wpAnyH_take (i := 0) (v := ?_) rfl (by kernel_rfl) (by kernel_rfl) (by kernel_rfl) (fun _ _ _ h => h) (Or.inl ⟨by rfl, ?_⟩) hHeld ?_; rotate_left; (intro w hSw; (obtain ⟨_, s1, s2⟩ := hSw); (go_simp <;> with_reducible rfl)); simp only [List.getElem_toArray, List.getElem_cons_zero, Act.put, List.setIfInBounds_toArray, List.set_cons_zero, List.set_cons_succ])
            (refine wpAnyH_take (i := 1) (v := ?_) rfl (by kernel_rfl) (by kernel_rfl) (by kernel_rfl) (fun _ _ _ h => h) (Or.inl ⟨by rfl, ?_⟩) hHeld ?_; rotate_left; (intro w hSw; (obtain ⟨_, s1, s2⟩ := hSw); (go_simp <;> with_reducible rfl)); simp only [List.getElem_toArray, List.getElem_cons_zero, List.getElem_cons_succ, Act.put, List.setIfInBounds_toArray, List.set_cons_zero, List.set_cons_succ])
            (refine wpAnyH_take (i := 2) (v := ?_) rfl (by kernel_rfl) (by kernel_rfl) (by kernel_rfl) (fun _ _ _ h => h) (Or.inl ⟨by rfl, ?_⟩) hHeld ?_; rotate_left; (intro w hSw; (obtain ⟨_, s1, s2⟩ := hSw); (go_simp <;> with_reducible rfl)); simp only [List.getElem_toArray, List.getElem_cons_zero, List.getElem_cons_succ, Act.put, List.setIfInBounds_toArray, List.set_cons_zero, List.set_cons_succ])
            (refine wpAnyH_take (i := 3) (v := ?_) rfl (by kernel_rfl) (by kernel_rfl) (by kernel_rfl) (fun _ _ _ h => h) (Or.inl ⟨by rfl, ?_⟩) hHeld ?_; rotate_left; (intro w hSw; (obtain ⟨_, s1, s2⟩ := hSw); (go_simp <;> with_reducible rfl)); simp only [List.getElem_toArray, List.getElem_cons_zero, List.getElem_cons_succ, Act.put, List.setIfInBounds_toArray, List.set_cons_zero, List.set_cons_succ])
            (refine wpAnyH_take (i := 4) (v := ?_) rfl (by kernel_rfl) (by kernel_rfl) (by kernel_rfl) (fun _ _ _ h => h) (Or.inl ⟨by rfl, ?_⟩) hHeld ?_; rotate_left; (intro w hSw; (obtain ⟨_, s1, s2⟩ := hSw); (go_simp <;> with_reducible rfl)); simp only [List.getElem_toArray, List.getElem_cons_zero, List.getElem_cons_succ, Act.put, List.setIfInBounds_toArray, List.set_cons_zero, List.set_cons_succ])
            (refine wpAnyH_take (i := 5) (v := ?_) rfl (by kernel_rfl) (by kernel_rfl) (by kernel_rfl) (fun _ _ _ h => h) (Or.inl ⟨by rfl, ?_⟩) hHeld ?_; rotate_left; (intro w hSw; (obtain ⟨_, s1, s2⟩ := hSw); (go_simp <;> with_reducible rfl)); simp only [List.getElem_toArray, List.getElem_cons_zero, List.getElem_cons_succ, Act.put, List.setIfInBounds_toArray, List.set_cons_zero, List.set_cons_succ])
            (refine wpAnyH_take (i := 6) (v := ?_) rfl (by kernel_rfl) (by kernel_rfl) (by kernel_rfl) (fun _ _ _ h => h) (Or.inl ⟨by rfl, ?_⟩) hHeld ?_; rotate_left; (intro w hSw; (obtain ⟨_, s1, s2⟩ := hSw); (go_simp <;> with_reducible rfl)); simp only [List.getElem_toArray, List.getElem_cons_zero, List.getElem_cons_succ, Act.put, List.setIfInBounds_toArray, List.set_cons_zero, List.set_cons_succ])
            (refine wpAnyH_take (i := 7) (v := ?_) rfl (by kernel_rfl) (by kernel_rfl) (by kernel_rfl) (fun _ _ _ h => h) (Or.inl ⟨by rfl, ?_⟩) hHeld ?_; rotate_left; (intro w hSw; (obtain ⟨_, s1, s2⟩ := hSw); (go_simp <;> with_reducible rfl)); simp only [List.getElem_toArray, List.getElem_cons_zero, List.getElem_cons_succ, Act.put, List.setIfInBounds_toArray, List.set_cons_zero, List.set_cons_succ])
            (refine wpAnyH_take (i := 8) (v := ?_) rfl (by kernel_rfl) (by kernel_rfl) (by kernel_rfl) (fun _ _ _ h => h) (Or.inl ⟨by rfl, ?_⟩) hHeld ?_; rotate_left; (intro w hSw; (obtain ⟨_, s1, s2⟩ := hSw); (go_simp <;> with_reducible rfl)); simp only [List.getElem_toArray, List.getElem_cons_zero, List.getElem_cons_succ, Act.put, List.setIfInBounds_toArray, List.set_cons_zero, List.set_cons_succ])
            (refine wpAnyH_take (i := 9) (v := ?_) rfl (by kernel_rfl) (by kernel_rfl) (by kernel_rfl) (fun _ _ _ h => h) (Or.inl ⟨by rfl, ?_⟩) hHeld ?_; rotate_left; (intro w hSw; (obtain ⟨_, s1, s2⟩ := hSw); (go_simp <;> with_reducible rfl)); simp only [List.getElem_toArray, List.getElem_cons_zero, List.getElem_cons_succ, Act.put, List.setIfInBounds_toArray, List.set_cons_zero, List.set_cons_succ])
            (refine wpAnyH_take (i := 10) (v := ?_) rfl (by kernel_rfl) (by kernel_rfl) (by kernel_rfl) (fun _ _ _ h => h) (Or.inl ⟨by rfl, ?_⟩) hHeld ?_; rotate_left; (intro w hSw; (obtain ⟨_, s1, s2⟩ := hSw); (go_simp <;> with_reducible rfl)); simp only [List.getElem_toArray, List.getElem_cons_zero, List.getElem_cons_succ, Act.put, List.setIfInBounds_toArray, List.set_cons_zero, List.set_cons_succ])
            (refine wpAnyH_take (i := 11) (v := ?_) rfl (by kernel_rfl) (by kernel_rfl) (by kernel_rfl) (fun _ _ _ h => h) (Or.inl ⟨by rfl, ?_⟩) hHeld ?_; rotate_left; (intro w hSw; (obtain ⟨_, s1, s2⟩ := hSw); (go_simp <;> with_reducible rfl)); simp only [List.getElem_toArray, List.getElem_cons_zero, List.getElem_cons_succ, Act.put, List.setIfInBounds_toArray, List.set_cons_zero, List.set_cons_succ])
            (refine wpAnyH_take (i := 12) (v := ?_) rfl (by kernel_rfl) (by kernel_rfl) (by kernel_rfl) (fun _ _ _ h => h) (Or.inl ⟨by rfl, ?_⟩) hHeld ?_; rotate_left; (intro w hSw; (obtain ⟨_, s1, s2⟩ := hSw); (go_simp <;> with_reducible rfl)); simp only [List.getElem_toArray, List.getElem_cons_zero, List.getElem_cons_succ, Act.put, List.setIfInBounds_toArray, List.set_cons_zero, List.set_cons_succ])
            (refine wpAnyH_take (i := 13) (v := ?_) rfl (by kernel_rfl) (by kernel_rfl) (by kernel_rfl) (fun _ _ _ h => h) (Or.inl ⟨by rfl, ?_⟩) hHeld ?_; rotate_left; (intro w hSw; (obtain ⟨_, s1, s2⟩ := hSw); (go_simp <;> with_reducible rfl)); simp only [List.getElem_toArray, List.getElem_cons_zero, List.getElem_cons_succ, Act.put, List.setIfInBounds_toArray, List.set_cons_zero, List.set_cons_succ])
            (refine wpAnyH_ready (rs := [14]) (by kernel_rfl) (by simp) ?_; refine AllReadyH.cons rfl (fun K hK => ?_) AllReadyH.nil; go_simp; (refine (HTj.out _).mono ?_; rintro e w9 ⟨rfl, rfl⟩); refine hK.out _ _ ?_ (fun hHeld => ?_); (assumption); clear hK K; try dsimp only)
            (refine wpAnyH_take (i := 15) (v := ?_) rfl (by kernel_rfl) (by kernel_rfl) (by kernel_rfl) (fun _ _ _ h => h) (Or.inl ⟨by rfl, ?_⟩) hHeld ?_; rotate_left; (intro w hSw; (obtain ⟨_, s1, s2⟩ := hSw); (go_simp <;> with_reducible rfl)); simp only [List.getElem_toArray, List.getElem_cons_zero, List.getElem_cons_succ, Act.put, List.setIfInBounds_toArray, List.set_cons_zero, List.set_cons_succ])
            (refine wpAnyH_take (i := 16) (v := ?_) rfl (by kernel_rfl) (by kernel_rfl) (by kernel_rfl) (fun _ _ _ h => h) (Or.inl ⟨by rfl, ?_⟩) hHeld ?_; rotate_left; (intro w hSw; (obtain ⟨_, s1, s2⟩ := hSw); (go_simp <;> with_reducible rfl)); simp only [List.getElem_toArray, List.getElem_cons_zero, List.getElem_cons_succ, Act.put, List.setIfInBounds_toArray, List.set_cons_zero, List.set_cons_succ])
            (refine wpAnyH_take (i := 17) (v := ?_) rfl (by kernel_rfl) (by kernel_rfl) (by kernel_rfl) (fun _ _ _ h => h) (Or.inl ⟨by rfl, ?_⟩) hHeld ?_; rotate_left; (intro w hSw; (obtain ⟨_, s1, s2⟩ := hSw); (go_simp <;> with_reducible rfl)); simp only [List.getElem_toArray, List.getElem_cons_zero, List.getElem_cons_succ, Act.put, List.setIfInBounds_toArray, List.set_cons_zero, List.set_cons_succ])
            (refine wpAnyH_take (i := 18) (v := ?_) rfl (by kernel_rfl) (by kernel_rfl) (by kernel_rfl) (fun _ _ _ h => h) (Or.inl ⟨by rfl, ?_⟩) hHeld ?_; rotate_left; (intro w hSw; (obtain ⟨_, s1, s2⟩ := hSw); (go_simp <;> with_reducible rfl)); simp only [List.getElem_toArray, List.getElem_cons_zero, List.getElem_cons_succ, Act.put, List.setIfInBounds_toArray, List.set_cons_zero, List.set_cons_succ])
            (refine wpAnyH_take (i := 19) (v := ?_) rfl (by kernel_rfl) (by kernel_rfl) (by kernel_rfl) (fun _ _ _ h => h) (Or.inl ⟨by rfl, ?_⟩) hHeld ?_; rotate_left; (intro w hSw; (obtain ⟨_, s1, s2⟩ := hSw); (go_simp <;> with_reducible rfl)); simp only [List.getElem_toArray, List.getElem_cons_zero, List.getElem_cons_succ, Act.put, List.setIfInBounds_toArray, List.set_cons_zero, List.set_cons_succ])
            refine wpAnyH_done (by kernel_rfl) ?_ _
            refine NoPanic.normal ?_
            have HB := hid hHeld.1
            clear hHeld hA hK c1 c2 HTj
            generalize wr.drew = W1 at *
            obtain ⟨c1, f1⟩ := HB.out.d.cellAt Hlen.out j (by rw [pS_len]; omega)
            obtain ⟨c2, f2⟩ := HB.out.d.cellAt Hlen.out q (by rw [pS_len]; omega)
            have HK2 : Hid (HK w k gs cs gd cd (hS l) (pS k (j + 1) vv oo) ((W1.setCell ⟨gd, j, none⟩ (.int .i64 (vv j))).setCell ⟨gd, q, none⟩ (.int .i64 (vv q)))) := by
              have hst1 := Ow.set HB.out.d Hlen.out j (vv j)
              have hst2 := Ow.set hst1.1 (by rw [List.length_set]; exact Hlen.out) q (vv q)
              have hd2 := hst2.1
              rw [HStep.out] at hd2
              have hbd := blk_of HB.out.d
              refine ⟨HB.out.ne, ?_, hd2, (HB.out.b.setCell (p := ⟨gd, j, none⟩) hbd.1 _).setCell (p := ⟨gd, q, none⟩) hbd.1 _⟩
              have hne' := HB.out.ne
              exact Ow.keptNe (Ow.keptNe HB.out.s hst1.2 (fun i e => by simp [Value.ownBlock] at e ⊢; omega)) hst2.2 (fun i e => by simp [Value.ownBlock] at e ⊢; omega)
            clear HB HStep Hlen HO HEnd
            generalize (pS k j vv oo).getD j 0 = z1 at *
            generalize (pS k j vv oo).getD q 0 = z2 at *
            generalize vv j = x' at *
            generalize vv q = y' at *
            go_wp2
            go_roundw
            case rel => exact ⟨j + 1, by go_num, by omega, HK2.out⟩
            case measure => simp [intOf]; omega
          · obtain rfl : j = r := by omega
            rw [HEnd.out] at hK
            go_wp2
            exact bodyPost_ret (v := .tuple #[.slice (some ⟨gs, 0, none⟩) k cs, .slice (some ⟨gd, 0, none⟩) k cd]) (by simp [results, Try.results76, go_sem]) rfl ⟨gs, cs, gd, cd, rfl, hK.out⟩
end Go.Proofs.Ytodfkicmmcfkaaa.HalS
