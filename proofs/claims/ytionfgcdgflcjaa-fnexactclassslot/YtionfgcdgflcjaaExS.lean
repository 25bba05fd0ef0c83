/- The laws' helpers over answers with a list of slots; what an exact law over such answers keeps. -/
import Derived.Test.YtionfgcdgflcjaaSlA
namespace Go.Proofs.Ytionfgcdgflcjaa.ExS
open Go.ChangeShapes Go.WideShapes Go.ChangeAt Go.RowKit Go.Proofs.Ytionfgcdgflcjaa.Num Go.Proofs.Ytionfgcdgflcjaa.Sli Go.Proofs.Ytionfgcdgflcjaa.App Go.Proofs.Ytionfgcdgflcjaa.Byt Go.Proofs.Ytionfgcdgflcjaa.Blk Go.Proofs.Ytionfgcdgflcjaa.Dec Go.Proofs.Ytionfgcdgflcjaa.RangeM Go.Proofs.Ytionfgcdgflcjaa.SlS Go.Proofs.Ytionfgcdgflcjaa.ExL Go.Proofs.Ytionfgcdgflcjaa.SlA

/-- The marks. -/
def mk3 (i : Nat) : Sl3 := (1 + 3 * (i : Int), 1 + 3 * (i : Int) + 1, 1 + 3 * (i : Int) + 1 + 1)
def marks3 (n : Nat) : List Sl3 := (List.range n).map mk3
theorem marks3_len (n : Nat) : (marks3 n).length = n := by simp [marks3]
theorem marks3_get (n i : Nat) (h : i < n) : (marks3 n).getD i (0, 0, 0) = mk3 i := by simp [marks3, h]
def marked3 (ls : List Sl3) (i : Nat) : List Sl3 := marks3 i ++ ls.drop i
theorem marked3_len (ls : List Sl3) (i : Nat) (h : i ≤ ls.length) : (marked3 ls i).length = ls.length := by simp [marked3, marks3_len]; omega
theorem marked3_all (ls : List Sl3) : marked3 ls ls.length = marks3 ls.length := by simp [marked3]
theorem marked3_set (ls : List Sl3) (i : Nat) (h : i < ls.length) : (marked3 ls i).set i (mk3 i) = marked3 ls (i + 1) := by
  unfold marked3
  apply List.ext_getElem
  · simp [marks3_len]; omega
  · intro j h1 h2
    simp only [List.getElem_set, List.getElem_append, marks3_len, List.getElem_drop]
    by_cases e : i = j
    · subst e; simp [marks3, show i < i + 1 by omega]
    · simp only [e, if_false]
      by_cases hi : j < i
      · simp [hi, show j < i + 1 by omega, marks3]
      · simp only [hi, show ¬ j < i + 1 by omega, dite_false]
        congr 1
        omega
set_option maxHeartbeats 1000000 in
theorem mark3_some (base g cap n : Nat) (ls : List Sl3) (w : World) (h : OwS base w (.slice (some ⟨g, 0, none⟩) n cap) ls) (hn : n = ls.length) (hlen : n ≤ 1048576) :
    Calls Try.prog 42 #[.slice (some ⟨g, 0, none⟩) n cap, .int .i64 1] w fun e w' => e = .returned (.int .i64 (1 + 3 * (n : Int))) ∧ OwS base w' (.slice (some ⟨g, 0, none⟩) n cap) (marks3 n) ∧ w.grownBy w' (some g) := by
  have H := hid h
  have Hn := hid hn
  clear h hn
  go_enter Try.func42, Try.ntmps42
  go_wp2_with fail
  go_loopw [1, 5] (fun q i wr => ∃ k : Nat, k ≤ n ∧ i = .int .i64 k ∧ q = .int .i64 (1 + 3 * (k : Int)) ∧ Hid (OwS base wr (.slice (some ⟨g, 0, none⟩) n cap) (marked3 ls k)) ∧ Hid (w.grownBy wr (some g))) (fun _ i _ => n - (intOf i).toNat)
  case atStart => exact ⟨0, Nat.zero_le _, rfl, rfl, H.out, grown_refl _ _⟩
  case round =>
    clear H
    obtain ⟨k, hk, rfl, rfl, ho, hg⟩ := hrel
    have hm : n = (marked3 ls k).length := by have := Hn.out; rw [marked3_len _ _ (by omega)]; exact this
    by_cases hlt : k < n
    · obtain ⟨⟨d1, d2, d3⟩, f1, f2, f3⟩ := OwS.cells ho.out hm k hlt
      obtain ⟨hs, hg2⟩ := OwS.set3 ho.out hm k hlt (1 + 3 * (k : Int)) (1 + 3 * (k : Int) + 1) (1 + 3 * (k : Int) + 1 + 1)
      have hset := marked3_set ls k (by have := Hn.out; omega)
      unfold mk3 at hset
      rw [hset] at hs
      have HO := hid hs
      have HG := hid (grown_same hg.out hg2)
      clear hs hg2 ho hg hset hm
      generalize ((marked3 ls k).getD k (0, 0, 0)).1 = y1 at *
      generalize ((marked3 ls k).getD k (0, 0, 0)).2.1 = y2 at *
      generalize ((marked3 ls k).getD k (0, 0, 0)).2.2 = y3 at *
      go_wp2
      go_roundw
      case rel => exact ⟨k + 1, by omega, by go_num, by go_num, HO.out, HG.out⟩
      case measure => simp [intOf]; omega
    · obtain rfl : k = n := by omega
      clear hm
      have e1 : Hid (marked3 ls k = marks3 k) := by show _ = _; have := Hn.out; subst this; exact marked3_all ls
      rw [e1.out] at ho
      go_wp2
      go_ret
      exact ⟨rfl, ho.out, hg.out⟩
theorem mark3_nil (w : World) : Calls Try.prog 42 #[.slice none 0 0, .int .i64 1] w fun e w' => e = .returned (.int .i64 1) ∧ w' = w := by
  go_enter Try.func42, Try.ntmps42
  go_wp2_with fail
  go_loop [1, 5] (fun q i => q = .int .i64 1 ∧ i = .int .i64 0) (fun _ _ => 0)
  case atStart => exact ⟨rfl, rfl⟩
  case round =>
    obtain ⟨rfl, rfl⟩ := hrel
    go_wp2
    go_ret
    exact ⟨rfl, rfl⟩
theorem mark3_calls (base : Nat) (v : Value) (ls : List Sl3) (w : World) (h : OwS base w v ls) (hlen : ls.length ≤ 1048576) :
    Calls Try.prog 42 #[v, .int .i64 1] w fun e w' => e = .returned (.int .i64 (1 + 3 * (ls.length : Int))) ∧ OwS base w' v (marks3 ls.length) ∧ w.grownBy w' v.ownBlock := by
  have h' := h
  rcases h'.2 with ⟨rfl, h0⟩ | ⟨g, cap, cur, rfl, _⟩
  · have e : ls = [] := List.length_eq_zero_iff.1 h0
    subst e
    exact (mark3_nil w).mono fun e w' ⟨he, hw⟩ => by subst hw; exact ⟨he, h, grown_refl _ _⟩
  · exact mark3_some base g cap _ ls w h rfl hlen
set_option maxHeartbeats 1000000 in
theorem held3_calls (v : Value) (n : Nat) (w : World) (h : SlS w v (marks3 n)) (hlen : n ≤ 1048576) :
    Calls Try.prog 43 #[v, .int .i64 1] w fun e w' => e = .returned (.int .i64 (1 + 3 * (n : Int))) ∧ w' = w := by
  have H := hid h
  obtain ⟨a, cap, rfl, hc⟩ := h
  rw [marks3_len] at *
  clear hc
  go_enter Try.func43, Try.ntmps43
  go_wp2_with fail
  go_loop [1, 5] (fun q i => ∃ k : Nat, k ≤ n ∧ i = .int .i64 k ∧ q = .int .i64 (1 + 3 * (k : Int))) (fun _ i => n - (intOf i).toNat)
  case atStart => exact ⟨0, Nat.zero_le _, rfl, rfl⟩
  case round =>
    obtain ⟨k, hk, rfl, rfl⟩ := hrel
    by_cases hlt : k < n
    · obtain ⟨a', cap', hv, hc⟩ := H.out
      rw [marks3_len] at hv hc
      cases hv
      obtain ⟨b, off, rfl, hbl, hcell⟩ := hc (by intro e; have := marks3_len n; rw [e] at this; simp at this; omega)
      obtain ⟨c1, c2, c3⟩ := hcell k hlt
      rw [marks3_get n k hlt] at c1 c2 c3
      dsimp only [mk3] at c1 c2 c3
      clear hc hcell
      go_wp2
      go_round
      case rel => exact ⟨k + 1, by omega, by go_num, by go_num⟩
      case measure => simp [intOf]; omega
    · obtain rfl : k = n := by omega
      go_wp2
      go_ret
      exact ⟨rfl, rfl⟩
theorem eqSlotsResult_calls (c : Int) (v1 v2 : Value) (ls : List Sl3) (w : World) (h1 : SlS w v1 ls) (h2 : SlS w v2 ls) (hlen : ls.length ≤ 1048576) :
    Calls Try.prog 22 #[.agg #[.int .i64 c, v1], .agg #[.int .i64 c, v2]] w fun e w' => e = .returned (.bool true) ∧ Below w.heap.size w w' := by
  have HB := hid (bmore (bmore (Below.refl _ w) (.cells #[.int .i64 c, v1] 30)) (.cells #[.int .i64 c, v2] 30))
  have H1 := hid (h1.later HB.out)
  have H2 := hid (h2.later HB.out)
  obtain ⟨a1, cap1, rfl, _⟩ := h1
  obtain ⟨a2, cap2, rfl, _⟩ := h2
  go_enter Try.func22, Try.ntmps22
  go_wp2_with fail
  refine (eqSlotS_calls _ _ ls _ H1.out H2.out hlen).mono ?_
  rintro e w1 ⟨rfl, hb⟩
  have HW := hid (bthen HB.out hb)
  clear hb
  go_wp2
  go_ret
  exact ⟨rfl, HW.out⟩
theorem markSlotsResult_calls (base : Nat) (c : Int) (v : Value) (ls : List Sl3) (w : World) (h : OwS base w v ls) (hlen : ls.length ≤ 1048576) :
    Calls Try.prog 23 #[.agg #[.int .i64 c, v], .int .i64 1] w fun e w' => e = .returned (.int .i64 (1 + 3 * (ls.length : Int))) ∧ OwS base w' v (marks3 ls.length) ∧ w.grownBy w' v.ownBlock := by
  have HB := bmore (Below.refl _ w) (.cells #[.int .i64 c, v] 30)
  have HM := hid (mark3_calls base v ls _ (OwS.later h HB) hlen)
  obtain ⟨a1, cap1, rfl, _⟩ := h.sls
  clear HB
  generalize ls.length = n at *
  go_enter Try.func23, Try.ntmps23
  go_wp2_with fail
  refine HM.out.mono ?_
  rintro e w1 ⟨rfl, ho, hg⟩
  have HO := hid ho
  have HG : Hid (w.grownBy w1 (Value.slice a1 n cap1).ownBlock) := ⟨hg.os, hg.tape, hg.output, Nat.le_trans (by simp) hg.size, fun j hj hne => (hg.block j (by simp; omega) hne).trans (Below.heap_alloc w _ j hj)⟩
  clear ho hg HM
  go_wp2
  go_ret
  exact ⟨rfl, HO.out, HG.out⟩
theorem heldSlotsResult_calls (c : Int) (v : Value) (n : Nat) (w : World) (h : SlS w v (marks3 n)) (hlen : n ≤ 1048576) :
    Calls Try.prog 24 #[.agg #[.int .i64 c, v], .int .i64 1] w fun e w' => e = .returned (.int .i64 (1 + 3 * (n : Int))) ∧ Below w.heap.size w w' := by
  have HB := bmore (Below.refl _ w) (.cells #[.int .i64 c, v] 30)
  have HM := hid (held3_calls v n _ (h.later HB) hlen)
  have HW := hid HB
  obtain ⟨a1, cap1, rfl, _⟩ := h
  have hn : 0 ≤ 1 + 3 * (n : Int) := by omega
  clear HB
  generalize (marks3 n).length = m at *
  go_enter Try.func24, Try.ntmps24
  go_wp2_with fail
  refine HM.out.mono ?_
  rintro e w1 ⟨rfl, rfl⟩
  clear HM
  go_wp2
  go_ret
  exact ⟨rfl, HW.out⟩
/-- The model's answer lies in block A, its list W below; the program's lies in block q, its list G between. -/
structure KS (w : World) (A q : Nat) (c : Int) (W G : Value) (zs ys : List Sl3) (v : World) : Prop where
  p : Blk v A #[.int .i64 c, W] 30
  k : Blk v q #[.int .i64 c, G] 30
  oW : OwS 0 v W zs
  wA : ∀ j, W.ownBlock = some j → j < A
  oG : OwS (A + 1) v G ys
  gq : ∀ j, G.ownBlock = some j → j < q
  l1 : A < q
  l0 : w.heap.size ≤ A
  bel : Below w.heap.size w v
theorem KS.later {w : World} {A q : Nat} {c : Int} {W G : Value} {zs ys : List Sl3} {v v' : World} (h : KS w A q c W G zs ys v) (hb : Below v.heap.size v v') : KS w A q c W G zs ys v' :=
  ⟨h.p.later hb, h.k.later hb, OwS.later h.oW hb, h.wA, OwS.later h.oG hb, h.gq, h.l1, h.l0, bthen h.bel hb⟩
theorem KS.markG {w : World} {A q : Nat} {c : Int} {W G : Value} {zs ys ys' : List Sl3} {v v' : World} (h : KS w A q c W G zs ys v) (hg : v.grownBy v' G.ownBlock) (ho : OwS (A + 1) v' G ys') : KS w A q c W G zs ys' v' := by
  have l1 := h.l1; have l0 := h.l0
  have hl := h.k.lt
  refine ⟨h.p.kept hg (fun e => ?_), h.k.kept hg (fun e => ?_), World.ownsRow.kept h.oW hg ?_, h.wA, ho, h.gq, l1, l0, h.bel.trans (below_of_grown hg (by omega) (fun j e => ?_))⟩
  · have := (OwS.lt h.oG A e).1; omega
  · have := h.gq q e; omega
  · cases hw : W.ownBlock with
    | none => exact .inl rfl
    | some j =>
      refine .inr fun e => ?_
      have h1 := h.wA j hw
      have h2 := (OwS.lt h.oG j e.symm).1
      omega
  · have := (OwS.lt h.oG j e).1; omega
theorem ks_start {w w2 w4 : World} {c : Int} {W G : Value} {zs ys : List Sl3} (hb2 : Below w.heap.size w w2) (hW : OwS w.heap.size w2 W zs)
    (hb4 : Below (w2.alloc (.cells #[.int .i64 c, W] 30)).heap.size (w2.alloc (.cells #[.int .i64 c, W] 30)) w4) (hG : OwS (w2.alloc (.cells #[.int .i64 c, W] 30)).heap.size w4 G ys) :
    KS w w2.heap.size w4.heap.size c W G zs ys (w4.alloc (.cells #[.int .i64 c, G] 30)) := by
  have s4 : w2.heap.size + 1 ≤ w4.heap.size := by simpa using hb4.size
  have hG' : OwS (w2.heap.size + 1) w4 G ys := by simpa using hG
  refine ⟨((Blk.new w2 _ _).later hb4).alloc _, Blk.new w4 _ _, OwS.mono (OwS.later (OwS.later (OwS.later hW (bmore (Below.refl _ _) _)) hb4) (bmore (Below.refl _ _) _)) (Nat.zero_le _), fun j e => (OwS.lt hW j e).2, OwS.later hG' (bmore (Below.refl _ _) _), fun j e => (OwS.lt hG' j e).2, by omega, hb2.size, bmore (bthen (bmore hb2 _) hb4) _⟩
end Go.Proofs.Ytionfgcdgflcjaa.ExS
