/- The draws of chapter 3: slots. -/
import Derived.Test.YtdmaeipiikknnaaDoorTakT
import Derived.Test.YtdmaeipiikknnaaDoorSrc
namespace Go.Proofs.YtdmaeipiikknnaaDoor.DrwS
open Go.ChangeShapes Go.WideShapes Go.ChangeAt Go.RowKit Go.Proofs.YtdmaeipiikknnaaDoor.Num Go.Proofs.YtdmaeipiikknnaaDoor.Sli Go.Proofs.YtdmaeipiikknnaaDoor.App Go.Proofs.YtdmaeipiikknnaaDoor.Byt Go.Proofs.YtdmaeipiikknnaaDoor.CrcM Go.Proofs.YtdmaeipiikknnaaDoor.Str Go.Proofs.YtdmaeipiikknnaaDoor.Div Go.Proofs.YtdmaeipiikknnaaDoor.Dec Go.Proofs.YtdmaeipiikknnaaDoor.Blk Go.Proofs.YtdmaeipiikknnaaDoor.Nxt Go.Proofs.YtdmaeipiikknnaaDoor.Byte Go.Proofs.YtdmaeipiikknnaaDoor.TakS Go.Proofs.YtdmaeipiikknnaaDoor.TakT Go.Proofs.YtdmaeipiikknnaaDoor.Src

theorem src_kept {w0 w w' : World} {g : Nat} {a : Option Addr} {cap : Nat} {bs : List Int} {at' : Nat} {row : Option Nat} (h : Src w0 w g a cap bs at') (k : w.grownBy w' row) (hr : ∀ j, row = some j → j ≠ g ∧ w0.heap.size ≤ j) : Src w0 w' g a cap bs at' := by
  obtain ⟨h1, h2, h3, h4, h5, h6⟩ := h
  refine ⟨h1, h2.trans (below_of_grown k h2.size (fun j e => (hr j e).2)), h3, h4, h5, ?_⟩
  exact (k.block g (Array.getElem?_eq_some_iff.1 h6).1 (fun e => (hr g e.symm).1 rfl)).trans h6
theorem src_later2 {w0 w w' : World} {g : Nat} {a : Option Addr} {cap : Nat} {bs : List Int} {at' : Nat} (h : Src w0 w g a cap bs at') (hb : Below w.heap.size w w') : Src w0 w' g a cap bs at' :=
  src_kept h (row := none) ⟨hb.os, hb.tape, hb.output, hb.size, fun k hk _ => hb.block k hk⟩ (fun j e => by cases e)
/-- From w on nothing but the source turned. -/
theorem grown_two {w a b : World} {g : Nat} (h : w.grownBy a (some g)) (k : a.grownBy b (some g)) : w.grownBy b (some g) := grown_same h k
theorem grown_in {w a : World} {o : Obj} {g : Nat} (h : (w.alloc o).grownBy a (some g)) : w.grownBy a (some g) :=
  ⟨h.os, h.tape, h.output, Nat.le_trans (by simp) h.size, fun j hj hne => (h.block j (by simp; omega) hne).trans (Below.heap_alloc _ _ j hj)⟩
theorem grown_new {w a : World} {b g : Nat} (h : w.grownBy a (some g)) {c : World} (k : a.grownBy c (some b)) (hb : w.heap.size ≤ b) : w.grownBy c (some g) :=
  ⟨k.os.trans h.os, k.tape.trans h.tape, k.output.trans h.output, Nat.le_trans h.size k.size, fun j hj hne => (k.block j (Nat.lt_of_lt_of_le hj h.size) (by simp; omega)).trans (h.block j hj hne)⟩

/-- A slot that fits. -/
def okS (lo sz tot : Int) : Prop := (1 ≤ tot ∧ tot ≤ 1024) ∧ (1 ≤ sz ∧ sz ≤ tot) ∧ (0 ≤ lo ∧ lo ≤ tot - sz)
theorem Blk.set3 {w : World} {b : Nat} {v0 v1 v2 : Value} {t : TypeId} (h : Blk w b #[v0, v1, v2] t) (x0 x1 x2 : Value) :
    Blk (((w.setCell ⟨b, 0, none⟩ x0).setCell ⟨b, 1, none⟩ x1).setCell ⟨b, 2, none⟩ x2) b #[x0, x1, x2] t := ((h.set 0 x0).set 1 x1).set 2 x2
theorem grown_set3 (w : World) (b : Nat) (x0 x1 x2 : Value) :
    w.grownBy (((w.setCell ⟨b, 0, none⟩ x0).setCell ⟨b, 1, none⟩ x1).setCell ⟨b, 2, none⟩ x2) (some b) :=
  grown_same (grown_same (grown_set w b 0 _) (grown_set _ b 1 _)) (grown_set _ b 2 _)

set_option maxHeartbeats 1000000 in
theorem l3Slot_calls (w0 w : World) (g : Nat) (a : Option Addr) (cap : Nat) (bs : List Int) (at' : Nat) (h : Src w0 w g a cap bs at') (hat : at' ≤ 90000) :
    Calls Tryd.prog 44 #[.pointer (some ⟨g, 0, none⟩)] w fun e w' => ∃ lo sz tot : Int, e = .returned (.agg #[.int .i64 lo, .int .i64 sz, .int .i64 tot]) ∧ okS lo sz tot ∧ Src w0 w' g a cap bs (at' + 6) ∧ w.grownBy w' (some g) := by
  have H0 := hid (src_alloc h (.cells #[.int .i64 0, .int .i64 0, .int .i64 0] 39))
  have hgw := src_lt h
  have hw0 := h.2.1.size
  have HZ := hid (Blk.new w #[.int .i64 0, .int .i64 0, .int .i64 0] 39)
  clear h
  go_enter Tryd.func44, Tryd.ntmps44
  go_wp2_with fail
  refine (l1Next_calls w0 _ g a cap bs _ 300 H0.out (by omega) (by omega) (by omega)).mono ?_
  rintro e w1 ⟨r, rfl, hr1, hr2, hs1, hg1⟩
  have HG := hid (grown_in hg1)
  have HS1 := hid hs1
  have HZ1 := hid (HZ.out.kept hg1 (by simp; omega))
  clear hs1 hg1 H0 HZ
  go_wp2_with fail
  refine (l1Pick_lit w0 _ g a cap bs _ 7 2 [1, 2, 3, 256, 1000, 1024, 1 + r] _ HS1.out (by omega) rfl rfl (by omega) (by omega)).mono ?_
  rintro e w2 ⟨tot, rfl, ht, hs2, hg2⟩
  have ht1 : 1 ≤ tot ∧ tot ≤ 1024 := by
    simp only [List.mem_cons, List.not_mem_nil, or_false] at ht
    omega
  have HG2 := hid (grown_two HG.out (grown_in hg2))
  have HS2 := hid hs2
  have HZ2 := hid ((HZ1.out.alloc _).kept hg2 (by simp; omega))
  clear hs2 hg2 HG HS1 HZ1 ht hr1 hr2
  obtain ⟨t1, t2⟩ := ht1
  go_wp2_with fail
  refine (l1Next_calls w0 _ g a cap bs _ tot HS2.out (by omega) (by omega) (by omega)).mono ?_
  rintro e w3 ⟨r3, rfl, q1, q2, hs3, hg3⟩
  have HG3 := hid (grown_two HG2.out hg3)
  have HS3 := hid hs3
  have HZ3 := hid (HZ2.out.kept hg3 (by simp; omega))
  clear hs3 hg3 HG2 HS2 HZ2
  go_wp2_with fail
  refine (l1Chance_calls w0 _ g a cap bs _ 2 HS3.out (by omega) (by omega) (by omega)).mono ?_
  rintro e w4 ⟨c, rfl, hs4, hg4⟩
  have HG4 := hid (grown_two HG3.out hg4)
  have HS4 := hid hs4
  have HZ4 := hid (HZ3.out.kept hg4 (by simp; omega))
  clear hs4 hg4 HG3 HS3 HZ3
  obtain ⟨sz, hsz⟩ : ∃ sz : Int, sz = if c then 1 else 1 + r3 := ⟨_, rfl⟩
  have hsz1 : 1 ≤ sz ∧ sz ≤ tot := by cases c <;> simp at hsz <;> omega
  obtain ⟨sz1, sz2⟩ := hsz1
  cases c
  · simp only [Bool.false_eq_true, if_false] at hsz
    subst hsz
    go_wp2_with fail
    refine (l1Next_calls w0 _ g a cap bs _ _ HS4.out (by omega) (by omega) (by omega)).mono ?_
    rintro e w5 ⟨r5, rfl, p1, p2, hs5, hg5⟩
    have HG5 := hid (grown_two HG4.out hg5)
    have HS5 := hid hs5
    have HZ5 := hid (HZ4.out.kept hg5 (by simp; omega))
    clear hs5 hg5 HG4 HS4 HZ4
    go_wp2_with fail
    refine (l1Chance_calls w0 _ g a cap bs _ 4 HS5.out (by omega) (by omega) (by omega)).mono ?_
    rintro e w6 ⟨c2, rfl, hs6, hg6⟩
    have HG6 := hid (grown_two HG5.out hg6)
    have HS6 := hid hs6
    have HZ6 := hid (HZ5.out.kept hg6 (by simp; omega))
    clear hs6 hg6 HG5 HS5 HZ5
    obtain ⟨z0, z1, z2, f0, f1, f2⟩ := HZ6.out.three
    cases c2
    · go_wp2
      exact bodyPost_ret (v := .agg #[.int .i64 (r5), .int .i64 (1 + r3), .int .i64 tot]) (by simp [results, Tryd.results44, go_sem, z0, z1, z2]) rfl ⟨_, _, _, rfl, ⟨⟨by omega, by omega⟩, ⟨by omega, by omega⟩, by omega, by omega⟩, src_kept HS6.out (grown_set3 _ _ _ _ _) (fun j e => by cases e; exact ⟨by omega, hw0⟩), grown_new HG6.out (grown_set3 _ _ _ _ _) (Nat.le_refl _)⟩
    · go_wp2
      exact bodyPost_ret (v := .agg #[.int .i64 (tot - (1 + r3)), .int .i64 (1 + r3), .int .i64 tot]) (by simp [results, Tryd.results44, go_sem, z0, z1, z2]) rfl ⟨_, _, _, rfl, ⟨⟨by omega, by omega⟩, ⟨by omega, by omega⟩, by omega, by omega⟩, src_kept HS6.out (grown_set3 _ _ _ _ _) (fun j e => by cases e; exact ⟨by omega, hw0⟩), grown_new HG6.out (grown_set3 _ _ _ _ _) (Nat.le_refl _)⟩
  · simp only [if_true] at hsz
    subst hsz
    go_wp2_with fail
    refine (l1Next_calls w0 _ g a cap bs _ _ HS4.out (by omega) (by omega) (by omega)).mono ?_
    rintro e w5 ⟨r5, rfl, p1, p2, hs5, hg5⟩
    have HG5 := hid (grown_two HG4.out hg5)
    have HS5 := hid hs5
    have HZ5 := hid (HZ4.out.kept hg5 (by simp; omega))
    clear hs5 hg5 HG4 HS4 HZ4
    go_wp2_with fail
    refine (l1Chance_calls w0 _ g a cap bs _ 4 HS5.out (by omega) (by omega) (by omega)).mono ?_
    rintro e w6 ⟨c2, rfl, hs6, hg6⟩
    have HG6 := hid (grown_two HG5.out hg6)
    have HS6 := hid hs6
    have HZ6 := hid (HZ5.out.kept hg6 (by simp; omega))
    clear hs6 hg6 HG5 HS5 HZ5
    obtain ⟨z0, z1, z2, f0, f1, f2⟩ := HZ6.out.three
    cases c2
    · go_wp2
      exact bodyPost_ret (v := .agg #[.int .i64 (r5), .int .i64 (1), .int .i64 tot]) (by simp [results, Tryd.results44, go_sem, z0, z1, z2]) rfl ⟨_, _, _, rfl, ⟨⟨by omega, by omega⟩, ⟨by omega, by omega⟩, by omega, by omega⟩, src_kept HS6.out (grown_set3 _ _ _ _ _) (fun j e => by cases e; exact ⟨by omega, hw0⟩), grown_new HG6.out (grown_set3 _ _ _ _ _) (Nat.le_refl _)⟩
    · go_wp2
      exact bodyPost_ret (v := .agg #[.int .i64 (tot - 1), .int .i64 (1), .int .i64 tot]) (by simp [results, Tryd.results44, go_sem, z0, z1, z2]) rfl ⟨_, _, _, rfl, ⟨⟨by omega, by omega⟩, ⟨by omega, by omega⟩, by omega, by omega⟩, src_kept HS6.out (grown_set3 _ _ _ _ _) (fun j e => by cases e; exact ⟨by omega, hw0⟩), grown_new HG6.out (grown_set3 _ _ _ _ _) (Nat.le_refl _)⟩
set_option maxHeartbeats 1000000 in
theorem l3Bent_calls (w0 w : World) (g : Nat) (a : Option Addr) (cap : Nat) (bs : List Int) (at' : Nat) (h : Src w0 w g a cap bs at') (hat : at' ≤ 80000) :
    Calls Tryd.prog 27 #[.pointer (some ⟨g, 0, none⟩)] w fun e w' => ∃ (lo sz tot : Int) (at2 : Nat), e = .returned (.agg #[.int .i64 lo, .int .i64 sz, .int .i64 tot]) ∧ at2 ≤ at' + 8 ∧ Src w0 w' g a cap bs at2 ∧ w.grownBy w' (some g) := by
  have H0 := hid (src_alloc h (.cells #[.int .i64 0, .int .i64 0, .int .i64 0] 39))
  have hgw := src_lt h
  have hw0 := h.2.1.size
  have HZ := hid (Blk.new w #[.int .i64 0, .int .i64 0, .int .i64 0] 39)
  clear h
  go_enter Tryd.func27, Tryd.ntmps27
  go_wp2_with fail
  refine (l3Slot_calls w0 _ g a cap bs _ H0.out (by omega)).mono ?_
  rintro e w1 ⟨lo, sz, tot, rfl, hok, hs1, hg1⟩
  obtain ⟨⟨k1, k2⟩, ⟨k3, k4⟩, k5, k6⟩ := hok
  have HG := hid (grown_in hg1)
  have hw1 := hg1.size
  have HS1 := hid (src_alloc hs1 (.cells #[.int .i64 lo, .int .i64 sz, .int .i64 tot] 39))
  have HZ1 := hid ((HZ.out.kept hg1 (by simp; omega)).alloc (.cells #[.int .i64 lo, .int .i64 sz, .int .i64 tot] 39))
  have HX1 := hid (Blk.new w1 #[.int .i64 lo, .int .i64 sz, .int .i64 tot] 39)
  have hgw1 := src_lt hs1
  have hzw : w.heap.size < w1.heap.size := by rw [World.size_alloc] at hw1; omega
  clear hs1 hg1 H0 HZ hw1
  go_wp2_with fail
  refine (l1Next_calls w0 _ g a cap bs _ 30 HS1.out (by omega) (by omega) (by omega)).mono ?_
  rintro e w2 ⟨r, rfl, r1, r2, hs2, hg2⟩
  have HG2 := hid (grown_two HG.out (grown_in hg2))
  have HS2 := hid hs2
  have HZ2 := hid (HZ1.out.kept hg2 (by simp; omega))
  have HX2 := hid (HX1.out.kept hg2 (by simp; omega))
  clear hs2 hg2 HG HS1 HZ1 HX1
  obtain ⟨z0, z1, z2, f0, f1, f2⟩ := HZ2.out.three
  obtain ⟨x0, x1, x2, e0, e1, e2⟩ := HX2.out.three
  by_cases h0 : r = 0
  · subst h0
    go_wp2_with fail
    refine (l1Pick_lit w0 _ g a cap bs _ 3 2 [0, 1025, -1] _ HS2.out (by omega) rfl rfl (by omega) (by omega)).mono ?_
    rintro e w3 ⟨p, rfl, _, hs3, hg3⟩
    have HG3 := hid (grown_two HG2.out (grown_in hg3))
    have HS3 := hid hs3
    have HZ3 := hid ((HZ2.out.alloc _).kept hg3 (by simp; omega))
    have HX3 := hid ((HX2.out.alloc _).kept hg3 (by simp; omega))
    clear hs3 hg3 HG2 HS2 HZ2 HX2 z0 z1 z2 f0 f1 f2 x0 x1 x2 e0 e1 e2
    obtain ⟨z0, z1, z2, f0, f1, f2⟩ := HZ3.out.three
    obtain ⟨x0, x1, x2, e0, e1, e2⟩ := HX3.out.three
    go_wp2
    exact bodyPost_ret (v := .agg #[.int .i64 lo, .int .i64 sz, .int .i64 p]) (by simp [results, Tryd.results27, go_sem, z0, z1, z2]) rfl ⟨_, _, _, _, rfl, (by omega), src_kept (src_kept HS3.out (grown_set w3 w1.heap.size 2 (.int .i64 p)) (fun j e => by cases e; exact ⟨by omega, by omega⟩)) (grown_set3 _ w.heap.size _ _ _) (fun j e => by cases e; exact ⟨by omega, hw0⟩), grown_new (grown_new HG3.out (grown_set w3 w1.heap.size 2 (.int .i64 p)) (by omega)) (grown_set3 _ w.heap.size _ _ _) (Nat.le_refl _)⟩
  · by_cases h1 : r = 1
    · subst h1
      go_wp2_with fail
      refine (l1Pick_lit w0 _ g a cap bs _ 3 2 [0, tot + 1, 9223372036854775807] _ HS2.out (by omega) rfl rfl (by omega) (by omega)).mono ?_
      rintro e w3 ⟨p, rfl, _, hs3, hg3⟩
      have HG3 := hid (grown_two HG2.out (grown_in hg3))
      have HS3 := hid hs3
      have HZ3 := hid ((HZ2.out.alloc _).kept hg3 (by simp; omega))
      have HX3 := hid ((HX2.out.alloc _).kept hg3 (by simp; omega))
      clear hs3 hg3 HG2 HS2 HZ2 HX2 z0 z1 z2 f0 f1 f2 x0 x1 x2 e0 e1 e2
      obtain ⟨z0, z1, z2, f0, f1, f2⟩ := HZ3.out.three
      obtain ⟨x0, x1, x2, e0, e1, e2⟩ := HX3.out.three
      go_wp2
      exact bodyPost_ret (v := .agg #[.int .i64 lo, .int .i64 p, .int .i64 tot]) (by simp [results, Tryd.results27, go_sem, z0, z1, z2]) rfl ⟨_, _, _, _, rfl, (by omega), src_kept (src_kept HS3.out (grown_set w3 w1.heap.size 1 (.int .i64 p)) (fun j e => by cases e; exact ⟨by omega, by omega⟩)) (grown_set3 _ w.heap.size _ _ _) (fun j e => by cases e; exact ⟨by omega, hw0⟩), grown_new (grown_new HG3.out (grown_set w3 w1.heap.size 1 (.int .i64 p)) (by omega)) (grown_set3 _ w.heap.size _ _ _) (Nat.le_refl _)⟩
    · by_cases h2 : r = 2
      · subst h2
        go_wp2_with fail
        refine (l1Pick_lit w0 _ g a cap bs _ 3 2 [-1, tot, 9223372036854775807] _ HS2.out (by omega) rfl rfl (by omega) (by omega)).mono ?_
        rintro e w3 ⟨p, rfl, _, hs3, hg3⟩
        have HG3 := hid (grown_two HG2.out (grown_in hg3))
        have HS3 := hid hs3
        have HZ3 := hid ((HZ2.out.alloc _).kept hg3 (by simp; omega))
        have HX3 := hid ((HX2.out.alloc _).kept hg3 (by simp; omega))
        clear hs3 hg3 HG2 HS2 HZ2 HX2 z0 z1 z2 f0 f1 f2 x0 x1 x2 e0 e1 e2
        obtain ⟨z0, z1, z2, f0, f1, f2⟩ := HZ3.out.three
        obtain ⟨x0, x1, x2, e0, e1, e2⟩ := HX3.out.three
        go_wp2
        exact bodyPost_ret (v := .agg #[.int .i64 p, .int .i64 sz, .int .i64 tot]) (by simp [results, Tryd.results27, go_sem, z0, z1, z2]) rfl ⟨_, _, _, _, rfl, (by omega), src_kept (src_kept HS3.out (grown_set w3 w1.heap.size 0 (.int .i64 p)) (fun j e => by cases e; exact ⟨by omega, by omega⟩)) (grown_set3 _ w.heap.size _ _ _) (fun j e => by cases e; exact ⟨by omega, hw0⟩), grown_new (grown_new HG3.out (grown_set w3 w1.heap.size 0 (.int .i64 p)) (by omega)) (grown_set3 _ w.heap.size _ _ _) (Nat.le_refl _)⟩
      · have b0 : (r == 0) = false := by simpa using h0
        have b1 : (r == 1) = false := by simpa using h1
        have b2 : (r == 2) = false := by simpa using h2
        go_wp2
        exact bodyPost_ret (v := .agg #[.int .i64 lo, .int .i64 sz, .int .i64 tot]) (by simp [results, Tryd.results27, go_sem, z0, z1, z2]) rfl ⟨_, _, _, _, rfl, (by omega), src_kept HS2.out (grown_set3 _ w.heap.size _ _ _) (fun j e => by cases e; exact ⟨by omega, hw0⟩), grown_new HG2.out (grown_set3 _ w.heap.size _ _ _) (Nat.le_refl _)⟩
end Go.Proofs.YtdmaeipiikknnaaDoor.DrwS
