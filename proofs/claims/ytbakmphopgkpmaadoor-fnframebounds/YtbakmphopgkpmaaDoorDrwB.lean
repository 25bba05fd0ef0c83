/- The draws of lists and blocks: each tells a list of its own, of at most 16 numbers, and nothing that was there turns. Conditions: those of the source. -/
import Derived.Test.YtbakmphopgkpmaaDoorGe
import Derived.Test.YtbakmphopgkpmaaDoorDrwP
import Derived.Test.YtbakmphopgkpmaaDoorGg
import Derived.Deep.RegionHeld3
namespace Go.Proofs.YtbakmphopgkpmaaDoor.DrwB
open Go.ChangeShapes Go.WideShapes Go.ChangeAt Go.RowKit Go.Proofs.YtbakmphopgkpmaaDoor.Num Go.Proofs.YtbakmphopgkpmaaDoor.Sli Go.Proofs.YtbakmphopgkpmaaDoor.App Go.Proofs.YtbakmphopgkpmaaDoor.Blk Go.Proofs.YtbakmphopgkpmaaDoor.Src Go.Proofs.YtbakmphopgkpmaaDoor.IntL Go.Proofs.YtbakmphopgkpmaaDoor.IntA Go.Proofs.YtbakmphopgkpmaaDoor.HalM Go.Proofs.YtbakmphopgkpmaaDoor.BloS
open Go.Proofs.YtbakmphopgkpmaaDoor.Lists (l1DrawList_calls src_grown)
open Go.Proofs.YtbakmphopgkpmaaDoor.DrwP (src_later)

theorem src_keep {w0 w w' : World} {g : Nat} {a : Option Addr} {cap : Nat} {bs : List Int} {at' : Nat} {j : Nat} (h : Src w0 w g a cap bs at') (k : w.grownBy w' (some j)) (h1 : j ≠ g) (h2 : w0.heap.size ≤ j) : Src w0 w' g a cap bs at' :=
  src_grown h k (fun i e => by cases e; exact ⟨h1, h2⟩)
/-- A source, and a list besides. -/
structure DK (w0 : World) (g : Nat) (a : Option Addr) (cap : Nat) (bs : List Int) (at' gl cl n : Nat) (ys : List Int) (W : World) : Prop where
  s : Src w0 W g a cap bs at'
  o : OwI w0.heap.size W (.slice (some ⟨gl, 0, none⟩) n cl) ys
  ne : gl ≠ g
  n : n = ys.length
variable {w0 W W' : World} {g : Nat} {a : Option Addr} {cap : Nat} {bs : List Int} {at' at2 gl cl n : Nat} {ys : List Int}
theorem DK.next (h : DK w0 g a cap bs at' gl cl n ys W) (hs : Src w0 W' g a cap bs at2) (hg : W.grownBy W' (some g)) : DK w0 g a cap bs at2 gl cl n ys W' :=
  ⟨hs, Ow.keptNe h.o hg (fun j e => by cases e; have := h.ne; simp [Value.ownBlock]; exact this), h.ne, h.n⟩
theorem DK.alloc (h : DK w0 g a cap bs at' gl cl n ys W) (o : Obj) : DK w0 g a cap bs at' gl cl n ys (W.alloc o) := ⟨src_alloc h.s o, h.o.alloc o, h.ne, h.n⟩
theorem DK.set (h : DK w0 g a cap bs at' gl cl n ys W) (i : Nat) (x : Int) : DK w0 g a cap bs at' gl cl n (ys.set i x) (W.setCell ⟨gl, i, none⟩ (.int .i64 x)) := by
  have h1 := Ow.set h.o h.n i x
  exact ⟨src_keep h.s h1.2 h.ne (h.o.block gl rfl).1, h1.1, h.ne, by rw [List.length_set]; exact h.n⟩
set_option maxHeartbeats 1000000 in
theorem drawSpread_calls (a : Option Addr) (cap : Nat) (bs : List Int) (w : World) (hsl : Sl .u8 w (.slice a bs.length cap) bs) (hbd : ∀ x ∈ bs, 0 ≤ x ∧ x ≤ 255) (hlen : bs.length ≤ 1048576) :
    Calls Tryd.prog 60 #[.slice a bs.length cap] w fun e w' => ∃ gl cl n ys, e = .returned (.slice (some ⟨gl, 0, none⟩) n cl) ∧ OwI w.heap.size w' (.slice (some ⟨gl, 0, none⟩) n cl) ys ∧ n = ys.length ∧ n ≤ 16 ∧ Below w.heap.size w w' := by
  have H := hid (l1Source_calls a cap bs w w (Below.refl _ _) hsl hbd hlen)
  clear hsl hbd
  go_enter Tryd.func60, Tryd.ntmps60
  go_wp2_with fail
  refine H.out.mono ?_
  rintro e w1 ⟨g, rfl, hs1, _⟩
  have Hs1 := hid hs1
  clear hs1 H
  go_wp2_with fail
  refine (l1Pick_lit w _ g a cap bs _ 8 2 [4, 8, 16, 4, 8, 16, 2, 0] _ Hs1.out (by omega) rfl rfl (by omega) (by omega)).mono ?_
  rintro e w2 ⟨r, rfl, hr, hs2, _⟩
  have hr0 : 0 ≤ r ∧ r ≤ 16 := by simp at hr; omega
  obtain ⟨n, rfl⟩ := Int.eq_ofNat_of_zero_le hr0.1
  have Hs2 := hid hs2
  clear hs2 hr
  go_wp2_with fail
  refine (l1Pick_lit w _ g a cap bs _ 4 2 [5, 900, 46000, 65536] _ Hs2.out (by omega) rfl rfl (by omega) (by omega)).mono ?_
  rintro e w3 ⟨q, rfl, hq, hs3, _⟩
  have hq0 : 0 ≤ q ∧ q ≤ 100000 := by simp at hq; omega
  have Hs3 := hid hs3
  clear hs3 hq
  go_wp2_with fail
  refine (l1DrawList_calls w _ g a cap bs _ n _ Hs3.out (by omega) (by omega) (by omega) (by omega)).mono ?_
  rintro e w4 ⟨gl, cl, ys, rfl, ho4, hyn, _, hs4, hg4⟩
  have hgw := src_lt Hs3.out
  have hle := ho4.le
  have hw3 := Hs3.out.2.1.size
  have HD : Hid (DK w g a cap bs (0 + 1 + 1 + n) gl cl ys.length ys w4) := ⟨hs4, App.Ow.mono ho4 hw3, by omega, rfl⟩
  have hn16 : n ≤ 16 := by omega
  clear ho4 hs4 hg4 Hs3 Hs2 Hs1 hle
  rw [hyn] at HD ⊢
  by_cases hpos : 0 < n
  · go_wp2_with fail
    refine (l1Chance_calls w _ g a cap bs _ _ HD.out.s (by omega) (by omega) (by omega)).mono ?_
    rintro e w5 ⟨c, rfl, hs5, hg5⟩
    have HD5 := hid (HD.out.next hs5 hg5)
    clear hs5 hg5 HD
    cases c
    · go_wp2
      go_ret
      exact ⟨gl, cl, n, ys, rfl, HD5.out.o, hyn.symm, hn16, HD5.out.s.2.1⟩
    · go_wp2_with fail
      refine (l1Next_calls w _ g a cap bs _ _ HD5.out.s (by omega) (by omega) (by omega)).mono ?_
      rintro e w6 ⟨i', rfl, hi0, hi1, hs6, hg6⟩
      obtain ⟨i, rfl⟩ := Int.eq_ofNat_of_zero_le hi0
      have HD6 := hid (HD5.out.next hs6 hg6)
      clear hs6 hg6 HD5
      go_wp2_with fail
      refine (l1Pick_lit w _ g a cap bs _ 3 2 [65536, -65536, 65537] _ HD6.out.s (by omega) rfl rfl (by omega) (by omega)).mono ?_
      rintro e w7 ⟨x, rfl, _, hs7, hg7⟩
      have hd7 := (HD6.out.alloc (.cells #[.int .i64 65536, .int .i64 (-65536), .int .i64 65537] 2)).next hs7 hg7
      have hcf := App.Ow.cellAt hd7.o hd7.n i (by rw [hyn]; omega)
      obtain ⟨c0, f0⟩ := hcf
      have HD8 := hid (hd7.set i x)
      have Hyn : Hid (n = (ys.set i x).length) := by show _ = _; rw [List.length_set]; exact hyn.symm
      clear hs7 hg7 HD6 hd7
      generalize ys.getD i 0 = y at *
      go_wp2
      go_ret
      exact ⟨gl, cl, n, ys.set i x, rfl, HD8.out.o, Hyn.out, hn16, HD8.out.s.2.1⟩
  · obtain rfl : n = 0 := by omega
    go_wp2
    go_ret
    exact ⟨gl, cl, 0, ys, rfl, HD.out.o, hyn.symm, by omega, HD.out.s.2.1⟩
/-- The source, a list, and an answer that holds it in block R. -/
structure DG (w0 : World) (g : Nat) (a : Option Addr) (cap : Nat) (bs : List Int) (at' R gl cl n : Nat) (ys : List Int) (W : World) : Prop where
  k : DK w0 g a cap bs at' gl cl n ys W
  r : Blk W R #[.int .i64 0, .slice (some ⟨gl, 0, none⟩) n cl] 35
  ne : R ≠ g
  nl : R ≠ gl
theorem DG.next {R : Nat} (h : DG w0 g a cap bs at' R gl cl n ys W) (hs : Src w0 W' g a cap bs at2) (hg : W.grownBy W' (some g)) : DG w0 g a cap bs at2 R gl cl n ys W' :=
  ⟨h.k.next hs hg, h.r.kept hg (fun e => h.ne (by simpa using e.symm)), h.ne, h.nl⟩
theorem DG.drew {R : Nat} (h : DG w0 g a cap bs at' R gl cl n ys W) : DG w0 g a cap bs at' R gl cl n ys W.drew :=
  ⟨⟨src_drew h.k.s 1, h.k.o, h.k.ne, h.k.n⟩, h.r, h.ne, h.nl⟩
theorem DG.one {R : Nat} (h : DG w0 g a cap bs at' R gl cl n ys W) : W.cell? ⟨R, 1, none⟩ = some (.slice (some ⟨gl, 0, none⟩) n cl) := h.r.two.2.1
theorem field0 (c v : Value) (w : World) : (Instr.field 35 (.agg #[c, v]) 0).run Tryd.prog w = .ok c w := by kernel_rfl
attribute [local go_sem] field0
theorem own_some {base : Nat} {w : World} {u : Value} {ys : List Int} (h : OwI base w u ys) (hp : 0 < ys.length) : ∃ g c, u = .slice (some ⟨g, 0, none⟩) ys.length c := by
  rcases h.2 with ⟨_, h0⟩ | ⟨g, c, _, rfl, _⟩
  · omega
  · exact ⟨g, c, rfl⟩
set_option maxHeartbeats 1000000 in
theorem drawGather_calls (a : Option Addr) (cap : Nat) (bs : List Int) (w : World) (hsl : Sl .u8 w (.slice a bs.length cap) bs) (hbd : ∀ x ∈ bs, 0 ≤ x ∧ x ≤ 255) (hlen : bs.length ≤ 1048576) :
    Calls Tryd.prog 20 #[.slice a bs.length cap] w fun e w' => ∃ gl cl n ys, e = .returned (.slice (some ⟨gl, 0, none⟩) n cl) ∧ OwI w.heap.size w' (.slice (some ⟨gl, 0, none⟩) n cl) ys ∧ n = ys.length ∧ n ≤ 16 ∧ Below w.heap.size w w' := by
  have H := hid (l1Source_calls a cap bs w w (Below.refl _ _) hsl hbd hlen)
  have HD := hid (fun W (hb : Below w.heap.size w W) => drawSpread_calls a cap bs W (hsl.later hb) hbd hlen)
  have HSp := hid specSpreadBlock_calls
  clear hsl hbd
  go_enter Tryd.func20, Tryd.ntmps20
  go_wp2_with fail
  refine H.out.mono ?_
  rintro e w1 ⟨g, rfl, hs1, _⟩
  have Hs1 := hid hs1
  clear hs1 H
  go_wp2_with fail
  refine (HD.out _ Hs1.out.2.1).mono ?_
  rintro e w2 ⟨gl, cl, n, ys, rfl, ho2, hn2, hn16, hb2⟩
  have hsz1 := Hs1.out.2.1.size
  have hg1 := src_lt Hs1.out
  have hbl := ho2.block gl rfl
  have HD2 : Hid (DK w g a cap bs 0 gl cl n ys w2) := ⟨src_later Hs1.out hb2, App.Ow.mono ho2 hsz1, by omega, hn2⟩
  have Hn2 := hid hn2
  have Hy16 : Hid (ys.length ≤ 16) := by show _ ≤ _; omega
  clear ho2 hb2 Hs1 HD hn2
  go_wp2_with fail
  refine (HSp.out _ ys _ HD2.out.o.sl (by have := Hy16.out; omega)).mono ?_
  rintro e w3 ⟨u, rfl, ho3, hb3⟩
  have hsz2 := HD2.out.s.2.1.size
  have HD3 : Hid (DK w g a cap bs 0 gl cl n ys (w3.alloc (.cells #[.int .i64 (sbC ys), u] 35))) :=
    DK.alloc ⟨src_later HD2.out.s hb3, HD2.out.o.later hb3, HD2.out.ne, HD2.out.n⟩ _
  have HU3 := hid (App.Ow.mono ho3 hsz2)
  have hg2 := src_lt HD2.out.s
  have hb3s := hb3.size
  have HR3 := hid (Blk.new w3 #[.int .i64 (sbC ys), u] 35)
  by_cases hc : sbC ys = 0
  · obtain ⟨l1, l2, _, _⟩ := law_blocks hc
    have hpos3 : 0 < (sbL ys).length := by
      have := (sb_ok hc).1
      have h3 := of_decide_eq_true this
      omega
    obtain ⟨gu, cu, rfl⟩ := own_some ho3 hpos3
    have hbu := ho3.block gu rfl
    have Hlim := hid l1
    have Hlu := hid l2
    have hu16 : ((sbL ys).length : Int) ≤ 16 := by have := Hy16.out; omega
    rw [hc] at HD3 HR3 ⊢
    have HG3 : Hid (DG w g a cap bs 0 w3.heap.size gu cu (sbL ys).length (sbL ys) (w3.alloc (.cells #[.int .i64 0, .slice (some ⟨gu, 0, none⟩) (sbL ys).length cu] 35))) :=
      ⟨⟨HD3.out.s, HU3.out.alloc _, by omega, rfl⟩, HR3.out, by omega, by omega⟩
    obtain ⟨r0, r1, _, _⟩ := HR3.out.two
    clear ho3 hb3 hc l1 l2 HD2 HU3
    generalize sbL ys = zs at *
    have hzp : 0 < (zs.length : Int) := by omega
    generalize hzn : zs.length = m at *
    have Hzn := hid hzn
    clear hzn
    go_wp2_with fail
    refine (l1Chance_calls w _ g a cap bs _ _ HD3.out.s (by omega) (by omega) (by omega)).mono ?_
    rintro e w4 ⟨c, rfl, hs4, hg4⟩
    have HDX := hid (HD3.out.next hs4 hg4)
    have HG4 := hid (HG3.out.next hs4 hg4)
    clear hs4 hg4 HD3 HG3 HR3 r0 r1
    generalize w3.heap.size = R at *
    cases c
    · clear HG4 hzp hu16 hpos3 Hlim Hlu
      by_cases hpos : 0 < n
      · go_wp2_with fail
        refine (l1Chance_calls w _ g a cap bs _ _ HDX.out.s (by omega) (by omega) (by omega)).mono ?_
        rintro e w7 ⟨c7, rfl, hs7, hg7⟩
        have HD7 := hid (HDX.out.next hs7 hg7)
        clear hs7 hg7 HDX
        cases c7
        · go_wp2
          go_ret
          exact ⟨gl, cl, n, ys, rfl, HD7.out.o, Hn2.out, hn16, HD7.out.s.2.1⟩
        · go_wp2_with fail
          refine (l1Pick_lit w _ g a cap bs _ 3 2 [16777216, -16777216, 16777217] _ HD7.out.s (by omega) rfl rfl (by omega) (by omega)).mono ?_
          rintro e w8 ⟨x, rfl, _, hs8, hg8⟩
          have hd8 := (HD7.out.alloc (.cells #[.int .i64 16777216, .int .i64 (-16777216), .int .i64 16777217] 2)).next hs8 hg8
          obtain ⟨c0, f0⟩ := App.Ow.cellAt hd8.o hd8.n 0 (by have := hd8.n; omega)
          have HD8 := hid (hd8.set 0 x)
          have Hyn : Hid (n = (ys.set 0 x).length) := by show _ = _; rw [List.length_set]; exact Hn2.out
          clear hs8 hg8 HD7 hd8
          generalize ys.getD 0 0 = y at *
          go_wp2
          go_ret
          exact ⟨gl, cl, n, ys.set 0 x, rfl, HD8.out.o, Hyn.out, hn16, HD8.out.s.2.1⟩
      · obtain rfl : n = 0 := by omega
        go_wp2
        go_ret
        exact ⟨gl, cl, 0, ys, rfl, HDX.out.o, Hn2.out, by omega, HDX.out.s.2.1⟩
    · clear HDX
      have hG := HG4.out.drew
      have k4 := hG.one
      have hnl := hG.nl
      go_wp2_with fail
      refine wp_region_noPanic ?_
      refine wp_region_held_drew (S := fun W => W.cell? ⟨R, 1, none⟩ = some (.slice (some ⟨gu, 0, none⟩) m cu)) (by kernel_rfl) (by first | exact k4 | exact k6 | exact k7 | exact k8 _) (fun hHeld => ?_)
      (refine wpAnyH_take (i := 0) (v := ?_) rfl (by kernel_rfl) (by kernel_rfl) (by kernel_rfl) (fun _ _ _ h => h) (Or.inl ⟨by rfl, ?_⟩) hHeld ?_; rotate_left; (intro w hSw; (have s0 := hSw); (go_simp <;> with_reducible rfl)); simp only [List.getElem_toArray, List.getElem_cons_zero, Act.put, List.setIfInBounds_toArray, List.set_cons_zero, List.set_cons_succ])
      (refine wpAnyH_take (i := 1) (v := ?_) rfl (by kernel_rfl) (by kernel_rfl) (by kernel_rfl) (fun _ _ _ h => h) (Or.inl ⟨by rfl, ?_⟩) hHeld ?_; rotate_left; (intro w hSw; (have s0 := hSw); (go_simp <;> with_reducible rfl)); simp only [List.getElem_toArray, List.getElem_cons_zero, List.getElem_cons_succ, Act.put, List.setIfInBounds_toArray, List.set_cons_zero, List.set_cons_succ])
      (refine wpAnyH_take (i := 2) (v := ?_) rfl (by kernel_rfl) (by kernel_rfl) (by kernel_rfl) (fun _ _ _ h => h) (Or.inl ⟨by rfl, ?_⟩) hHeld ?_; rotate_left; (intro w hSw; (have s0 := hSw); (go_simp <;> with_reducible rfl)); simp only [List.getElem_toArray, List.getElem_cons_zero, List.getElem_cons_succ, Act.put, List.setIfInBounds_toArray, List.set_cons_zero, List.set_cons_succ])
      (refine wpAnyH_take (i := 3) (v := ?_) rfl (by kernel_rfl) (by kernel_rfl) (by kernel_rfl) (fun _ _ _ h => h) (Or.inl ⟨by rfl, ?_⟩) hHeld ?_; rotate_left; (intro w hSw; (have s0 := hSw); (go_simp <;> with_reducible rfl)); simp only [List.getElem_toArray, List.getElem_cons_zero, List.getElem_cons_succ, Act.put, List.setIfInBounds_toArray, List.set_cons_zero, List.set_cons_succ])
      (refine wpAnyH_take (i := 4) (v := ?_) rfl (by kernel_rfl) (by kernel_rfl) (by kernel_rfl) (fun _ _ _ h => h) (Or.inl ⟨by rfl, ?_⟩) hHeld ?_; rotate_left; (intro w hSw; (have s0 := hSw); (go_simp <;> with_reducible rfl)); simp only [List.getElem_toArray, List.getElem_cons_zero, List.getElem_cons_succ, Act.put, List.setIfInBounds_toArray, List.set_cons_zero, List.set_cons_succ])
      (refine wpAnyH_take (i := 5) (v := ?_) rfl (by kernel_rfl) (by kernel_rfl) (by kernel_rfl) (fun _ _ _ h => h) (Or.inl ⟨by rfl, ?_⟩) hHeld ?_; rotate_left; (intro w hSw; (have s0 := hSw); (go_simp <;> with_reducible rfl)); simp only [List.getElem_toArray, List.getElem_cons_zero, List.getElem_cons_succ, Act.put, List.setIfInBounds_toArray, List.set_cons_zero, List.set_cons_succ])
      (refine wpAnyH_take (i := 9) (v := ?_) rfl (by kernel_rfl) (by kernel_rfl) (by kernel_rfl) (fun _ _ _ h => h) (Or.inl ⟨by rfl, ?_⟩) hHeld ?_; rotate_left; (intro w hSw; (have s0 := hSw); (go_simp <;> with_reducible rfl)); simp only [List.getElem_toArray, List.getElem_cons_zero, List.getElem_cons_succ, Act.put, List.setIfInBounds_toArray, List.set_cons_zero, List.set_cons_succ])
      refine wpAnyH_ready (rs := [6]) (by kernel_rfl) (by simp) ?_
      refine (AllReadyH.cons rfl (fun K hK => ?_) AllReadyH.nil)
      go_simp
      (refine (l1Next_calls w _ g a cap bs _ _ hG.k.s (by omega) (by omega) (by omega)).mono ?_; rintro e w6 ⟨i', rfl, hi0, hi1, hs6, hg6⟩; obtain ⟨i, rfl⟩ := Int.eq_ofNat_of_zero_le hi0; have hG6 := hG.next hs6 hg6; have k6 := hG6.one; obtain ⟨c6, f6⟩ := App.Ow.cellAt hG6.k.o hG6.k.n i (by have := Hzn.out; omega); have hy := Hlim.out i; generalize hyy : zs.getD i 0 = y at *; have Hyy := hid hyy; clear hyy)
      refine hK.out _ _ (by first | exact k4 | exact k6 | exact k7 | exact k8 _) (fun hHeld => ?_)
      clear hK K
      try dsimp only
      (refine wpAnyH_take (i := 7) (v := ?_) rfl (by kernel_rfl) (by kernel_rfl) (by kernel_rfl) (fun _ _ _ h => h) (Or.inl ⟨by rfl, ?_⟩) hHeld ?_; rotate_left; (intro w hSw; (have s0 := hSw); (go_simp <;> with_reducible rfl)); simp only [List.getElem_toArray, List.getElem_cons_zero, List.getElem_cons_succ, Act.put, List.setIfInBounds_toArray, List.set_cons_zero, List.set_cons_succ])
      refine wpAnyH_ready (rs := [8, 10]) (by kernel_rfl) (by simp) ?_
      refine (AllReadyH.cons rfl (fun K hK => ?_) (AllReadyH.cons rfl (fun K hK => ?_) AllReadyH.nil))
      · go_simp
        skip
        refine hK.out _ _ (by first | exact k4 | exact k6 | exact k7 | exact k8 _) (fun hHeld => ?_)
        clear hK K
        try simp only [List.getElem_toArray, List.getElem_cons_zero, List.getElem_cons_succ, Act.put, List.setIfInBounds_toArray, List.set_cons_zero, List.set_cons_succ]
        refine wpAnyH_ready (rs := [10]) (by kernel_rfl) (by simp) ?_
        refine (AllReadyH.cons rfl (fun K hK => ?_) AllReadyH.nil)
        go_simp
        (refine (l1Signed_calls w _ g a cap bs _ 50 hG6.k.s (by omega) (by omega) (by omega)).mono ?_; rintro e w7 ⟨x, rfl, hx0, hx1, hs7, hg7⟩; have hG7 := hG6.next hs7 hg7; have k7 := hG7.one; obtain ⟨c7, f7⟩ := App.Ow.cellAt hG7.k.o hG7.k.n i (by have := Hzn.out; omega); rw [Hyy.out] at c7; have ew : IntKind.i64.wrap (y + x) = y + x := wrapk_of (by omega) (by omega); have HG8 := hid (hG7.k.set i (y + x)); have k8 : ∀ y, (w7.setCell ⟨gu, i, none⟩ y).cell? ⟨R, 1, none⟩ = some (.slice (some ⟨gu, 0, none⟩) m cu) := fun y => (hG7.r.other (fun e => hnl e.symm) i y).two.2.1)
        refine hK.out _ _ (by first | exact k4 | exact k6 | exact k7 | exact k8 _) (fun hHeld => ?_)
        clear hK K
        try dsimp only
        (refine wpAnyH_take (i := 11) (v := ?_) rfl (by kernel_rfl) (by kernel_rfl) (by kernel_rfl) (fun _ _ _ h => h) (Or.inl ⟨by rfl, ?_⟩) hHeld ?_; rotate_left; (intro w hSw; (have s0 := hSw); (go_simp <;> with_reducible rfl)); simp only [List.getElem_toArray, List.getElem_cons_zero, List.getElem_cons_succ, Act.put, List.setIfInBounds_toArray, List.set_cons_zero, List.set_cons_succ])
        (refine wpAnyH_take (i := 12) (v := ?_) rfl (by kernel_rfl) (by kernel_rfl) (by kernel_rfl) (fun _ _ _ h => h) (Or.inl ⟨by rfl, ?_⟩) hHeld ?_; rotate_left; (intro w hSw; (have s0 := hSw); (go_simp <;> with_reducible rfl)); simp only [List.getElem_toArray, List.getElem_cons_zero, List.getElem_cons_succ, Act.put, List.setIfInBounds_toArray, List.set_cons_zero, List.set_cons_succ])
        refine wpAnyH_ready (rs := [13]) (by kernel_rfl) (by simp) ?_
        refine (AllReadyH.cons rfl (fun K hK => ?_) AllReadyH.nil)
        go_simp
        skip
        refine hK.out _ _ (by first | exact k4 | exact k6 | exact k7 | exact k8 _) (fun hHeld => ?_)
        clear hK K
        try simp only [List.getElem_toArray, List.getElem_cons_zero, List.getElem_cons_succ, Act.put, List.setIfInBounds_toArray, List.set_cons_zero, List.set_cons_succ]
        refine wpAnyH_done (by kernel_rfl) ?_ _
        refine NoPanic.normal ?_
        go_wp2
        go_ret
        exact ⟨gu, cu, m, zs.set i (y + x), rfl, HG8.out.o, by rw [List.length_set]; exact Hzn.out.symm, by omega, HG8.out.s.2.1⟩
      · go_simp
        (refine (l1Signed_calls w _ g a cap bs _ 50 hG6.k.s (by omega) (by omega) (by omega)).mono ?_; rintro e w7 ⟨x, rfl, hx0, hx1, hs7, hg7⟩; have hG7 := hG6.next hs7 hg7; have k7 := hG7.one; obtain ⟨c7, f7⟩ := App.Ow.cellAt hG7.k.o hG7.k.n i (by have := Hzn.out; omega); rw [Hyy.out] at c7; have ew : IntKind.i64.wrap (y + x) = y + x := wrapk_of (by omega) (by omega); have HG8 := hid (hG7.k.set i (y + x)); have k8 : ∀ y, (w7.setCell ⟨gu, i, none⟩ y).cell? ⟨R, 1, none⟩ = some (.slice (some ⟨gu, 0, none⟩) m cu) := fun y => (hG7.r.other (fun e => hnl e.symm) i y).two.2.1)
        refine hK.out _ _ (by first | exact k4 | exact k6 | exact k7 | exact k8 _) (fun hHeld => ?_)
        clear hK K
        try dsimp only
        refine wpAnyH_ready (rs := [8]) (by kernel_rfl) (by simp) ?_
        refine (AllReadyH.cons rfl (fun K hK => ?_) AllReadyH.nil)
        go_simp
        skip
        refine hK.out _ _ (by first | exact k4 | exact k6 | exact k7 | exact k8 _) (fun hHeld => ?_)
        clear hK K
        try simp only [List.getElem_toArray, List.getElem_cons_zero, List.getElem_cons_succ, Act.put, List.setIfInBounds_toArray, List.set_cons_zero, List.set_cons_succ]
        (refine wpAnyH_take (i := 11) (v := ?_) rfl (by kernel_rfl) (by kernel_rfl) (by kernel_rfl) (fun _ _ _ h => h) (Or.inl ⟨by rfl, ?_⟩) hHeld ?_; rotate_left; (intro w hSw; (have s0 := hSw); (go_simp <;> with_reducible rfl)); simp only [List.getElem_toArray, List.getElem_cons_zero, List.getElem_cons_succ, Act.put, List.setIfInBounds_toArray, List.set_cons_zero, List.set_cons_succ])
        (refine wpAnyH_take (i := 12) (v := ?_) rfl (by kernel_rfl) (by kernel_rfl) (by kernel_rfl) (fun _ _ _ h => h) (Or.inl ⟨by rfl, ?_⟩) hHeld ?_; rotate_left; (intro w hSw; (have s0 := hSw); (go_simp <;> with_reducible rfl)); simp only [List.getElem_toArray, List.getElem_cons_zero, List.getElem_cons_succ, Act.put, List.setIfInBounds_toArray, List.set_cons_zero, List.set_cons_succ])
        refine wpAnyH_ready (rs := [13]) (by kernel_rfl) (by simp) ?_
        refine (AllReadyH.cons rfl (fun K hK => ?_) AllReadyH.nil)
        go_simp
        skip
        refine hK.out _ _ (by first | exact k4 | exact k6 | exact k7 | exact k8 _) (fun hHeld => ?_)
        clear hK K
        try simp only [List.getElem_toArray, List.getElem_cons_zero, List.getElem_cons_succ, Act.put, List.setIfInBounds_toArray, List.set_cons_zero, List.set_cons_succ]
        refine wpAnyH_done (by kernel_rfl) ?_ _
        refine NoPanic.normal ?_
        go_wp2
        go_ret
        exact ⟨gu, cu, m, zs.set i (y + x), rfl, HG8.out.o, by rw [List.length_set]; exact Hzn.out.symm, by omega, HG8.out.s.2.1⟩
  · obtain ⟨au, cu, rfl, _⟩ := ho3.sl
    have HDX : Hid (DK w g a cap bs 0 gl cl n ys (w3.alloc (.cells #[.int .i64 (sbC ys), .slice au (sbL ys).length cu] 35))) := HD3
    have hcb : (sbC ys == 0) = false := by simpa using hc
    obtain ⟨r0, r1, _, _⟩ := HR3.out.two
    clear ho3 hb3 HD2 HU3 HD3 hc
    generalize sbC ys = c0 at *
    generalize (sbL ys).length = lu at *
    by_cases hpos : 0 < n
    · go_wp2_with fail
      refine (l1Chance_calls w _ g a cap bs _ _ HDX.out.s (by omega) (by omega) (by omega)).mono ?_
      rintro e w7 ⟨c7, rfl, hs7, hg7⟩
      have HD7 := hid (HDX.out.next hs7 hg7)
      clear hs7 hg7 HDX
      cases c7
      · go_wp2
        go_ret
        exact ⟨gl, cl, n, ys, rfl, HD7.out.o, Hn2.out, hn16, HD7.out.s.2.1⟩
      · go_wp2_with fail
        refine (l1Pick_lit w _ g a cap bs _ 3 2 [16777216, -16777216, 16777217] _ HD7.out.s (by omega) rfl rfl (by omega) (by omega)).mono ?_
        rintro e w8 ⟨x, rfl, _, hs8, hg8⟩
        have hd8 := (HD7.out.alloc (.cells #[.int .i64 16777216, .int .i64 (-16777216), .int .i64 16777217] 2)).next hs8 hg8
        obtain ⟨c0, f0⟩ := App.Ow.cellAt hd8.o hd8.n 0 (by have := hd8.n; omega)
        have HD8 := hid (hd8.set 0 x)
        have Hyn : Hid (n = (ys.set 0 x).length) := by show _ = _; rw [List.length_set]; exact Hn2.out
        clear hs8 hg8 HD7 hd8
        generalize ys.getD 0 0 = y at *
        go_wp2
        go_ret
        exact ⟨gl, cl, n, ys.set 0 x, rfl, HD8.out.o, Hyn.out, hn16, HD8.out.s.2.1⟩
    · obtain rfl : n = 0 := by omega
      go_wp2
      go_ret
      exact ⟨gl, cl, 0, ys, rfl, HDX.out.o, Hn2.out, by omega, HDX.out.s.2.1⟩
end Go.Proofs.YtbakmphopgkpmaaDoor.DrwB
