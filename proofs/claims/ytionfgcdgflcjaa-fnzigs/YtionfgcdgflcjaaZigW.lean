/- The walk through FnZigs. -/
import Derived.Test.YtionfgcdgflcjaaValT
import Derived.Test.YtionfgcdgflcjaaDrwV
import Derived.Deep.RegionHeld3
import Derived.Deep.CutBlock
import Derived.Deep.DeepCutAuto
namespace Go.Proofs.Ytionfgcdgflcjaa.ZigW
open Go.ChangeShapes Go.WideShapes Go.ChangeAt Go.RowKit Go.Proofs.Ytionfgcdgflcjaa.Num Go.Proofs.Ytionfgcdgflcjaa.Sli Go.Proofs.Ytionfgcdgflcjaa.App Go.Proofs.Ytionfgcdgflcjaa.Div Go.Proofs.Ytionfgcdgflcjaa.Dec Go.Proofs.Ytionfgcdgflcjaa.Blk Go.Proofs.Ytionfgcdgflcjaa.SlS Go.Proofs.Ytionfgcdgflcjaa.ExL Go.Proofs.Ytionfgcdgflcjaa.SlA Go.Proofs.Ytionfgcdgflcjaa.ValZ Go.Proofs.Ytionfgcdgflcjaa.ValI Go.Proofs.Ytionfgcdgflcjaa.ValJ Go.Proofs.Ytionfgcdgflcjaa.ValK Go.Proofs.Ytionfgcdgflcjaa.ValS Go.Proofs.Ytionfgcdgflcjaa.ValT Go.Proofs.Ytionfgcdgflcjaa.DrwV

theorem fieldI0 (c v : Value) (w : World) : (Instr.field 26 (.agg #[c, v]) 0).run Try.prog w = .ok c w := by kernel_rfl
theorem fieldI1 (c v : Value) (w : World) : (Instr.field 26 (.agg #[c, v]) 1).run Try.prog w = .ok v w := by kernel_rfl
theorem fieldS0 (c v : Value) (w : World) : (Instr.field 30 (.agg #[c, v]) 0).run Try.prog w = .ok c w := by kernel_rfl
theorem fieldS1 (c v : Value) (w : World) : (Instr.field 30 (.agg #[c, v]) 1).run Try.prog w = .ok v w := by kernel_rfl
attribute [local go_sem] fieldI0 fieldI1 fieldS0 fieldS1

/-- What FnZigs keeps: the four answers. -/
structure KZ (w : World) (Z S K U : Nat) (zc zo kc uc uo : Int) (vs vk : Value) (ls ks : List Sl3) (W : World) : Prop where
  z : Blk W Z #[.int .i64 zc, .int .i64 zo] 26
  s : Blk W S #[.int .i64 zc, vs] 30
  so : SlS W vs ls
  k : Blk W K #[.int .i64 kc, vk] 30
  ko : SlS W vk ks
  u : Blk W U #[.int .i64 uc, .int .i64 uo] 26
  b : Below w.heap.size w W
variable {w W W' : World} {Z S K U : Nat} {zc zo kc uc uo : Int} {vs vk : Value} {ls ks : List Sl3}
theorem KZ.later (h : KZ w Z S K U zc zo kc uc uo vs vk ls ks W) (hb : Below W.heap.size W W') : KZ w Z S K U zc zo kc uc uo vs vk ls ks W' :=
  ⟨h.z.later hb, h.s.later hb, h.so.later hb, h.k.later hb, h.ko.later hb, h.u.later hb, bthen h.b hb⟩
theorem KZ.drew (h : KZ w Z S K U zc zo kc uc uo vs vk ls ks W) : KZ w Z S K U zc zo kc uc uo vs vk ls ks W.drew := ⟨h.z, h.s, h.so, h.k, h.ko, h.u, h.b.drew⟩
theorem back_zig {x : Int} (h : inB 0 131070 x = true) : zO (uO x) = x := by
  obtain ⟨h1, h2⟩ := of_inB h
  obtain ⟨n, rfl⟩ := Int.eq_ofNat_of_zero_le h1
  have e1 : uO (n : Int) = uz n := (if_pos h).trans (by rw [Int.toNat_natCast])
  have e2 := isV_uz (z := n) (by omega)
  rw [e1]
  have e3 : zO (uz n) = (zg (uz n) : Int) := if_pos (inB_yes e2.1 e2.2)
  rw [e3, zg_uz]
theorem back_unzig {v : Int} (h : inB (-65535) 65535 v = true) : uO (zg v : Int) = v := by
  have h1 := zg_le (show isV v from of_inB h)
  have e1 : uO (zg v : Int) = uz (zg v) := (if_pos (inB_yes (by omega) (by omega))).trans (by rw [Int.toNat_natCast])
  rw [e1, uz_zg]
set_option maxRecDepth 100000 in
set_option maxHeartbeats 8000000 in
theorem fnZigs_calls (a : Option Addr) (cap : Nat) (bs : List Int) (w : World) (hsl : Sl .u8 w (.slice a bs.length cap) bs) (hbd : ∀ x ∈ bs, 0 ≤ x ∧ x ≤ 255) :
    Calls Try.prog 3 #[.slice a bs.length cap] w fun e w' => e = .returned (.bool true) ∧ Below w.heap.size w w' := by
  by_cases hbig : 1048576 < bs.length
  · have hb' : (1048576 : Int) < bs.length := by omega
    clear hsl hbd
    go_enter Try.func3, Try.ntmps3
    go_wp2
    go_ret
    exact ⟨rfl, Below.refl _ _⟩
  · have hb' : (bs.length : Int) ≤ 1048576 := by omega
    have H1 := hid (fun W (h : Below w.heap.size w W) => drawZig_calls a cap bs w W h hsl hbd (by omega))
    have H2 := hid (fun W (h : Below w.heap.size w W) => drawClass_calls a cap bs w W h hsl hbd (by omega))
    have H3 := hid (fun W (h : Below w.heap.size w W) => drawUnzig_calls a cap bs w W h hsl hbd (by omega))
    clear hsl hbd
    go_enter Try.func3, Try.ntmps3
    go_wp2_with (first | (go_at_call 8; go_in) | fail)
    refine (H1.out _ (Below.refl _ _)).mono ?_
    rintro e w1 ⟨v, rfl, hb1⟩
    have HB1 := hid hb1
    have HIZ := hid implZig_calls
    clear hb1 H1
    go_wp2_with fail
    refine (HIZ.out v _).mono ?_
    rintro e w2 ⟨rfl, hb2⟩
    have HZ := hid (Blk.new w2 #[.int .i64 (zC v), .int .i64 (zO v)] 26)
    have HB2 := hid (bmore (bthen HB1.out hb2) (.cells #[.int .i64 (zC v), .int .i64 (zO v)] 26))
    clear hb2 HB1
    have HIS := hid implSlots_calls
    go_wp2_with fail
    refine (HIS.out v _).mono ?_
    rintro e w3 ⟨vs, rfl, ho3, hb3⟩
    have esz : sC v = zC v := rfl
    rw [esz]
    have HZ3 := hid ((HZ.out.later hb3).alloc (.cells #[.int .i64 (zC v), vs] 30))
    have HS3 := hid (Blk.new w3 #[.int .i64 (zC v), vs] 30)
    have HO3 := hid (ho3.sls.later (bmore (Below.refl _ _) (.cells #[.int .i64 (zC v), vs] 30)))
    have HB3 := hid (bmore (bthen HB2.out hb3) (.cells #[.int .i64 (zC v), vs] 30))
    obtain ⟨avs, cvs, rfl, _⟩ := ho3.sls
    clear ho3 hb3 HZ HB2 HIS esz
    generalize w2.heap.size = Z at *
    go_wp2_with fail
    refine (H2.out _ HB3.out).mono ?_
    rintro e w4 ⟨c, rfl, hb4⟩
    have HZ4 := hid (HZ3.out.later hb4)
    have HS4 := hid (HS3.out.later hb4)
    have HO4 := hid (HO3.out.later hb4)
    have HB4 := hid (bthen HB3.out hb4)
    clear hb4 HZ3 HS3 HO3 HB3 H2
    generalize w3.heap.size = S at *
    have HIK := hid implClass_calls
    go_wp2_with fail
    refine (HIK.out c _).mono ?_
    rintro e w5 ⟨vk, rfl, ho5, hb5⟩
    have HZ5 := hid ((HZ4.out.later hb5).alloc (.cells #[.int .i64 (kC c), vk] 30))
    have HS5 := hid ((HS4.out.later hb5).alloc (.cells #[.int .i64 (kC c), vk] 30))
    have HO5 := hid ((HO4.out.later hb5).later (bmore (Below.refl _ _) (.cells #[.int .i64 (kC c), vk] 30)))
    have HK5 := hid (Blk.new w5 #[.int .i64 (kC c), vk] 30)
    have HL5 := hid (ho5.sls.later (bmore (Below.refl _ _) (.cells #[.int .i64 (kC c), vk] 30)))
    have HB5 := hid (bmore (bthen HB4.out hb5) (.cells #[.int .i64 (kC c), vk] 30))
    obtain ⟨avk, cvk, rfl, _⟩ := ho5.sls
    clear ho5 hb5 HZ4 HS4 HO4 HB4 HIK
    go_wp2_with fail
    refine (H3.out _ HB5.out).mono ?_
    rintro e w6 ⟨x, rfl, hb6⟩
    have HZ6 := hid (HZ5.out.later hb6)
    have HS6 := hid (HS5.out.later hb6)
    have HO6 := hid (HO5.out.later hb6)
    have HK6 := hid (HK5.out.later hb6)
    have HL6 := hid (HL5.out.later hb6)
    have HB6 := hid (bthen HB5.out hb6)
    clear hb6 HZ5 HS5 HO5 HK5 HL5 HB5 H3
    generalize w5.heap.size = K at *
    have HIU := hid implUnzig_calls
    go_wp2_with fail
    refine (HIU.out x _).mono ?_
    rintro e w7 ⟨rfl, hb7⟩
    have HK : Hid (KZ w Z S K w7.heap.size (zC v) (zO v) (kC c) (uC x) (uO x) (.slice avs (sL v).length cvs) (.slice avk (kL c).length cvk) (sL v) (kL c) (w7.alloc (.cells #[.int .i64 (uC x), .int .i64 (uO x)] 26))) := by
      have ha := bmore (Below.refl w7.heap.size w7) (.cells #[.int .i64 (uC x), .int .i64 (uO x)] 26)
      exact ⟨(HZ6.out.later hb7).later ha, (HS6.out.later hb7).later ha, (HO6.out.later hb7).later ha, (HK6.out.later hb7).later ha, (HL6.out.later hb7).later ha, Blk.new _ _ _, bthen (bthen HB6.out hb7) ha⟩
    clear hb7 HZ6 HS6 HO6 HK6 HL6 HB6
    have HSZ := hid (specZig_calls v)
    have HSK := hid (specClass_calls c)
    have HSU := hid (specUnzig_calls x)
    have hKd := HK.out.drew
    have Hzc : Hid (zC v = 0 ∧ inB (-65535) 65535 v = true ∨ zC v = 3) := by show _ ∨ _; unfold zC; cases h : inB (-65535) 65535 v <;> simp
    have Hkc : Hid (kC c = 0 ∧ inB 0 17 c = true ∨ kC c = 3) := by show _ ∨ _; unfold kC; cases h : inB 0 17 c <;> simp
    have Huc : Hid (uC x = 0 ∧ inB 0 131070 x = true ∨ uC x = 3) := by show _ ∨ _; unfold uC; cases h : inB 0 131070 x <;> simp
    go_wp2_with fail
    generalize hw8 : w7.alloc (.cells #[.int .i64 (uC x), .int .i64 (uO x)] 26) = w8 at *
    generalize w7.heap.size = U at *
    generalize hzc : zC v = zc at *
    generalize hkc : kC c = kc at *
    generalize huc : uC x = uc at *
    generalize hzo : zO v = zo at *
    generalize huo : uO x = uo at *
    generalize hls : sL v = ls at *
    generalize hks : kL c = ks at *
    have E := hid (And.intro hzc (And.intro hkc (And.intro huc (And.intro hzo (And.intro huo (And.intro hls hks))))))
    clear hzc hkc huc hzo huo hls hks hw8
    refine wp_region_noPanic ?_
    refine wp_region_held_drew (S := fun W => KZ w Z S K U zc zo kc uc uo (.slice avs ls.length cvs) (.slice avk ks.length cvk) ls ks W) (by kernel_rfl) ?_ (fun hHeld => ?_)
    · assumption
    (refine wpAnyH_take (i := 0) (v := ?_) rfl (by kernel_rfl) (by kernel_rfl) (by kernel_rfl) (fun _ _ _ h => h) (Or.inl ⟨by rfl, ?_⟩) hHeld ?_; rotate_left; (intro w hSw; (obtain ⟨z0, z1, _⟩ := hSw.z.two; obtain ⟨s0, s1, _⟩ := hSw.s.two; obtain ⟨k0, k1, _⟩ := hSw.k.two; obtain ⟨u0, u1, _⟩ := hSw.u.two; clear hSw); (go_simp <;> with_reducible rfl)); simp only [List.getElem_toArray, List.getElem_cons_zero, Act.put, List.setIfInBounds_toArray, List.set_cons_zero, List.set_cons_succ])
    (refine wpAnyH_take (i := 1) (v := ?_) rfl (by kernel_rfl) (by kernel_rfl) (by kernel_rfl) (fun _ _ _ h => h) (Or.inl ⟨by rfl, ?_⟩) hHeld ?_; rotate_left; (intro w hSw; (obtain ⟨z0, z1, _⟩ := hSw.z.two; obtain ⟨s0, s1, _⟩ := hSw.s.two; obtain ⟨k0, k1, _⟩ := hSw.k.two; obtain ⟨u0, u1, _⟩ := hSw.u.two; clear hSw); (go_simp <;> with_reducible rfl)); simp only [List.getElem_toArray, List.getElem_cons_zero, List.getElem_cons_succ, Act.put, List.setIfInBounds_toArray, List.set_cons_zero, List.set_cons_succ])
    (refine wpAnyH_take (i := 2) (v := ?_) rfl (by kernel_rfl) (by kernel_rfl) (by kernel_rfl) (fun _ _ _ h => h) (Or.inl ⟨by rfl, ?_⟩) hHeld ?_; rotate_left; (intro w hSw; (obtain ⟨z0, z1, _⟩ := hSw.z.two; obtain ⟨s0, s1, _⟩ := hSw.s.two; obtain ⟨k0, k1, _⟩ := hSw.k.two; obtain ⟨u0, u1, _⟩ := hSw.u.two; clear hSw); (go_simp <;> with_reducible rfl)); simp only [List.getElem_toArray, List.getElem_cons_zero, List.getElem_cons_succ, Act.put, List.setIfInBounds_toArray, List.set_cons_zero, List.set_cons_succ])
    (refine wpAnyH_ready (rs := [3]) (by kernel_rfl) (by simp) ?_; refine AllReadyH.cons rfl (fun K hK => ?_) AllReadyH.nil; go_simp; (refine (HSZ.out _).mono ?_; rintro e w9 ⟨rfl, hb9⟩; have hK1 := hHeld.later hb9); refine hK.out _ _ ?_ (fun hHeld => ?_); (assumption); clear hK K; try dsimp only)
    (refine wpAnyH_take (i := 4) (v := ?_) rfl (by kernel_rfl) (by kernel_rfl) (by kernel_rfl) (fun _ _ _ h => h) (Or.inl ⟨by rfl, ?_⟩) hHeld ?_; rotate_left; (intro w hSw; (obtain ⟨z0, z1, _⟩ := hSw.z.two; obtain ⟨s0, s1, _⟩ := hSw.s.two; obtain ⟨k0, k1, _⟩ := hSw.k.two; obtain ⟨u0, u1, _⟩ := hSw.u.two; clear hSw); (go_simp <;> with_reducible rfl)); simp only [List.getElem_toArray, List.getElem_cons_zero, List.getElem_cons_succ, Act.put, List.setIfInBounds_toArray, List.set_cons_zero, List.set_cons_succ])
    (refine wpAnyH_take (i := 5) (v := ?_) rfl (by kernel_rfl) (by kernel_rfl) (by kernel_rfl) (fun _ _ _ h => h) (Or.inl ⟨by rfl, ?_⟩) hHeld ?_; rotate_left; (intro w hSw; (obtain ⟨z0, z1, _⟩ := hSw.z.two; obtain ⟨s0, s1, _⟩ := hSw.s.two; obtain ⟨k0, k1, _⟩ := hSw.k.two; obtain ⟨u0, u1, _⟩ := hSw.u.two; clear hSw); (go_simp <;> with_reducible rfl)); simp only [List.getElem_toArray, List.getElem_cons_zero, List.getElem_cons_succ, Act.put, List.setIfInBounds_toArray, List.set_cons_zero, List.set_cons_succ])
    (refine wpAnyH_take (i := 6) (v := ?_) rfl (by kernel_rfl) (by kernel_rfl) (by kernel_rfl) (fun _ _ _ h => h) (Or.inl ⟨by rfl, ?_⟩) hHeld ?_; rotate_left; (intro w hSw; (obtain ⟨z0, z1, _⟩ := hSw.z.two; obtain ⟨s0, s1, _⟩ := hSw.s.two; obtain ⟨k0, k1, _⟩ := hSw.k.two; obtain ⟨u0, u1, _⟩ := hSw.u.two; clear hSw); (go_simp <;> with_reducible rfl)); simp only [List.getElem_toArray, List.getElem_cons_zero, List.getElem_cons_succ, Act.put, List.setIfInBounds_toArray, List.set_cons_zero, List.set_cons_succ])
    first | (refine wpAnyH_take (i := 7) (v := ?_) rfl (by kernel_rfl) (by kernel_rfl) (by kernel_rfl) (fun _ _ _ h => h) (Or.inl ⟨by rfl, ?_⟩) hHeld ?_; rotate_left; (intro w hSw; (obtain ⟨z0, z1, _⟩ := hSw.z.two; obtain ⟨s0, s1, _⟩ := hSw.s.two; obtain ⟨k0, k1, _⟩ := hSw.k.two; obtain ⟨u0, u1, _⟩ := hSw.u.two; clear hSw); (go_simp <;> with_reducible rfl)); simp only [List.getElem_toArray, List.getElem_cons_zero, List.getElem_cons_succ, Act.put, List.setIfInBounds_toArray, List.set_cons_zero, List.set_cons_succ]) | (refine wpAnyH_take (i := 7) (v := undef) rfl (by kernel_rfl) (by kernel_rfl) (by kernel_rfl) (fun _ _ _ h => h) (Or.inr ⟨by rfl, rfl⟩) hHeld ?_; simp only [List.getElem_toArray, List.getElem_cons_zero, List.getElem_cons_succ, Act.put, List.setIfInBounds_toArray, List.set_cons_zero, List.set_cons_succ])
    first | (refine wpAnyH_take (i := 8) (v := ?_) rfl (by kernel_rfl) (by kernel_rfl) (by kernel_rfl) (fun _ _ _ h => h) (Or.inl ⟨by rfl, ?_⟩) hHeld ?_; rotate_left; (intro w hSw; (obtain ⟨z0, z1, _⟩ := hSw.z.two; obtain ⟨s0, s1, _⟩ := hSw.s.two; obtain ⟨k0, k1, _⟩ := hSw.k.two; obtain ⟨u0, u1, _⟩ := hSw.u.two; clear hSw); (go_simp <;> with_reducible rfl)); simp only [List.getElem_toArray, List.getElem_cons_zero, List.getElem_cons_succ, Act.put, List.setIfInBounds_toArray, List.set_cons_zero, List.set_cons_succ]) | (refine wpAnyH_take (i := 8) (v := undef) rfl (by kernel_rfl) (by kernel_rfl) (by kernel_rfl) (fun _ _ _ h => h) (Or.inr ⟨by rfl, rfl⟩) hHeld ?_; simp only [List.getElem_toArray, List.getElem_cons_zero, List.getElem_cons_succ, Act.put, List.setIfInBounds_toArray, List.set_cons_zero, List.set_cons_succ])
    first | (refine wpAnyH_take (i := 9) (v := ?_) rfl (by kernel_rfl) (by kernel_rfl) (by kernel_rfl) (fun _ _ _ h => h) (Or.inl ⟨by rfl, ?_⟩) hHeld ?_; rotate_left; (intro w hSw; (obtain ⟨z0, z1, _⟩ := hSw.z.two; obtain ⟨s0, s1, _⟩ := hSw.s.two; obtain ⟨k0, k1, _⟩ := hSw.k.two; obtain ⟨u0, u1, _⟩ := hSw.u.two; clear hSw); (go_simp <;> with_reducible rfl)); simp only [List.getElem_toArray, List.getElem_cons_zero, List.getElem_cons_succ, Act.put, List.setIfInBounds_toArray, List.set_cons_zero, List.set_cons_succ]) | (refine wpAnyH_take (i := 9) (v := undef) rfl (by kernel_rfl) (by kernel_rfl) (by kernel_rfl) (fun _ _ _ h => h) (Or.inr ⟨by rfl, rfl⟩) hHeld ?_; simp only [List.getElem_toArray, List.getElem_cons_zero, List.getElem_cons_succ, Act.put, List.setIfInBounds_toArray, List.set_cons_zero, List.set_cons_succ])
    first | (refine wpAnyH_take (i := 10) (v := ?_) rfl (by kernel_rfl) (by kernel_rfl) (by kernel_rfl) (fun _ _ _ h => h) (Or.inl ⟨by rfl, ?_⟩) hHeld ?_; rotate_left; (intro w hSw; (obtain ⟨z0, z1, _⟩ := hSw.z.two; obtain ⟨s0, s1, _⟩ := hSw.s.two; obtain ⟨k0, k1, _⟩ := hSw.k.two; obtain ⟨u0, u1, _⟩ := hSw.u.two; clear hSw); (go_simp <;> with_reducible rfl)); simp only [List.getElem_toArray, List.getElem_cons_zero, List.getElem_cons_succ, Act.put, List.setIfInBounds_toArray, List.set_cons_zero, List.set_cons_succ]) | (refine wpAnyH_take (i := 10) (v := undef) rfl (by kernel_rfl) (by kernel_rfl) (by kernel_rfl) (fun _ _ _ h => h) (Or.inr ⟨by rfl, rfl⟩) hHeld ?_; simp only [List.getElem_toArray, List.getElem_cons_zero, List.getElem_cons_succ, Act.put, List.setIfInBounds_toArray, List.set_cons_zero, List.set_cons_succ])
    first | (refine wpAnyH_take (i := 11) (v := ?_) rfl (by kernel_rfl) (by kernel_rfl) (by kernel_rfl) (fun _ _ _ h => h) (Or.inl ⟨by rfl, ?_⟩) hHeld ?_; rotate_left; (intro w hSw; (obtain ⟨z0, z1, _⟩ := hSw.z.two; obtain ⟨s0, s1, _⟩ := hSw.s.two; obtain ⟨k0, k1, _⟩ := hSw.k.two; obtain ⟨u0, u1, _⟩ := hSw.u.two; clear hSw); (go_simp <;> with_reducible rfl)); simp only [List.getElem_toArray, List.getElem_cons_zero, List.getElem_cons_succ, Act.put, List.setIfInBounds_toArray, List.set_cons_zero, List.set_cons_succ]) | (refine wpAnyH_take (i := 11) (v := undef) rfl (by kernel_rfl) (by kernel_rfl) (by kernel_rfl) (fun _ _ _ h => h) (Or.inr ⟨by rfl, rfl⟩) hHeld ?_; simp only [List.getElem_toArray, List.getElem_cons_zero, List.getElem_cons_succ, Act.put, List.setIfInBounds_toArray, List.set_cons_zero, List.set_cons_succ])
    (refine wpAnyH_take (i := 12) (v := ?_) rfl (by kernel_rfl) (by kernel_rfl) (by kernel_rfl) (fun _ _ _ h => h) (Or.inl ⟨by rfl, ?_⟩) hHeld ?_; rotate_left; (intro w hSw; (obtain ⟨z0, z1, _⟩ := hSw.z.two; obtain ⟨s0, s1, _⟩ := hSw.s.two; obtain ⟨k0, k1, _⟩ := hSw.k.two; obtain ⟨u0, u1, _⟩ := hSw.u.two; clear hSw); (go_simp <;> with_reducible rfl)); simp only [List.getElem_toArray, List.getElem_cons_zero, List.getElem_cons_succ, Act.put, List.setIfInBounds_toArray, List.set_cons_zero, List.set_cons_succ])
    (refine wpAnyH_take (i := 13) (v := ?_) rfl (by kernel_rfl) (by kernel_rfl) (by kernel_rfl) (fun _ _ _ h => h) (Or.inl ⟨by rfl, ?_⟩) hHeld ?_; rotate_left; (intro w hSw; (obtain ⟨z0, z1, _⟩ := hSw.z.two; obtain ⟨s0, s1, _⟩ := hSw.s.two; obtain ⟨k0, k1, _⟩ := hSw.k.two; obtain ⟨u0, u1, _⟩ := hSw.u.two; clear hSw); (go_simp <;> with_reducible rfl)); simp only [List.getElem_toArray, List.getElem_cons_zero, List.getElem_cons_succ, Act.put, List.setIfInBounds_toArray, List.set_cons_zero, List.set_cons_succ])
    first | (refine wpAnyH_take (i := 14) (v := ?_) rfl (by kernel_rfl) (by kernel_rfl) (by kernel_rfl) (fun _ _ _ h => h) (Or.inl ⟨by rfl, ?_⟩) hHeld ?_; rotate_left; (intro w hSw; (obtain ⟨z0, z1, _⟩ := hSw.z.two; obtain ⟨s0, s1, _⟩ := hSw.s.two; obtain ⟨k0, k1, _⟩ := hSw.k.two; obtain ⟨u0, u1, _⟩ := hSw.u.two; clear hSw); (go_simp <;> with_reducible rfl)); simp only [List.getElem_toArray, List.getElem_cons_zero, List.getElem_cons_succ, Act.put, List.setIfInBounds_toArray, List.set_cons_zero, List.set_cons_succ]) | (refine wpAnyH_take (i := 14) (v := undef) rfl (by kernel_rfl) (by kernel_rfl) (by kernel_rfl) (fun _ _ _ h => h) (Or.inr ⟨by rfl, rfl⟩) hHeld ?_; simp only [List.getElem_toArray, List.getElem_cons_zero, List.getElem_cons_succ, Act.put, List.setIfInBounds_toArray, List.set_cons_zero, List.set_cons_succ])
    first | (refine wpAnyH_take (i := 15) (v := ?_) rfl (by kernel_rfl) (by kernel_rfl) (by kernel_rfl) (fun _ _ _ h => h) (Or.inl ⟨by rfl, ?_⟩) hHeld ?_; rotate_left; (intro w hSw; (obtain ⟨z0, z1, _⟩ := hSw.z.two; obtain ⟨s0, s1, _⟩ := hSw.s.two; obtain ⟨k0, k1, _⟩ := hSw.k.two; obtain ⟨u0, u1, _⟩ := hSw.u.two; clear hSw); (go_simp <;> with_reducible rfl)); simp only [List.getElem_toArray, List.getElem_cons_zero, List.getElem_cons_succ, Act.put, List.setIfInBounds_toArray, List.set_cons_zero, List.set_cons_succ]) | (refine wpAnyH_take (i := 15) (v := undef) rfl (by kernel_rfl) (by kernel_rfl) (by kernel_rfl) (fun _ _ _ h => h) (Or.inr ⟨by rfl, rfl⟩) hHeld ?_; simp only [List.getElem_toArray, List.getElem_cons_zero, List.getElem_cons_succ, Act.put, List.setIfInBounds_toArray, List.set_cons_zero, List.set_cons_succ])
    first | (refine wpAnyH_take (i := 16) (v := ?_) rfl (by kernel_rfl) (by kernel_rfl) (by kernel_rfl) (fun _ _ _ h => h) (Or.inl ⟨by rfl, ?_⟩) hHeld ?_; rotate_left; (intro w hSw; (obtain ⟨z0, z1, _⟩ := hSw.z.two; obtain ⟨s0, s1, _⟩ := hSw.s.two; obtain ⟨k0, k1, _⟩ := hSw.k.two; obtain ⟨u0, u1, _⟩ := hSw.u.two; clear hSw); (go_simp <;> with_reducible rfl)); simp only [List.getElem_toArray, List.getElem_cons_zero, List.getElem_cons_succ, Act.put, List.setIfInBounds_toArray, List.set_cons_zero, List.set_cons_succ]) | (refine wpAnyH_take (i := 16) (v := undef) rfl (by kernel_rfl) (by kernel_rfl) (by kernel_rfl) (fun _ _ _ h => h) (Or.inr ⟨by rfl, rfl⟩) hHeld ?_; simp only [List.getElem_toArray, List.getElem_cons_zero, List.getElem_cons_succ, Act.put, List.setIfInBounds_toArray, List.set_cons_zero, List.set_cons_succ])
    first | (refine wpAnyH_take (i := 17) (v := undef) rfl (by kernel_rfl) (by kernel_rfl) (by kernel_rfl) (fun _ _ _ h => h) (Or.inr ⟨by rfl, rfl⟩) hHeld ?_; simp only [List.getElem_toArray, List.getElem_cons_zero, List.getElem_cons_succ, Act.put, List.setIfInBounds_toArray, List.set_cons_zero, List.set_cons_succ]) | (refine wpAnyH_ready (rs := [17]) (by kernel_rfl) (by simp) ?_; refine AllReadyH.cons rfl (fun K hK => ?_) AllReadyH.nil; go_simp; (refine (HSK.out _).mono ?_; rintro e w10 ⟨vS, rfl, hoS, hbS⟩; have hK2 := hHeld.later hbS); refine hK.out _ _ ?_ (fun hHeld => ?_); (assumption); clear hK K; try dsimp only)
    first | (refine wpAnyH_take (i := 18) (v := ?_) rfl (by kernel_rfl) (by kernel_rfl) (by kernel_rfl) (fun _ _ _ h => h) (Or.inl ⟨by rfl, ?_⟩) hHeld ?_; rotate_left; (intro w hSw; (obtain ⟨z0, z1, _⟩ := hSw.z.two; obtain ⟨s0, s1, _⟩ := hSw.s.two; obtain ⟨k0, k1, _⟩ := hSw.k.two; obtain ⟨u0, u1, _⟩ := hSw.u.two; clear hSw); (go_simp <;> with_reducible rfl)); simp only [List.getElem_toArray, List.getElem_cons_zero, List.getElem_cons_succ, Act.put, List.setIfInBounds_toArray, List.set_cons_zero, List.set_cons_succ]) | (refine wpAnyH_take (i := 18) (v := undef) rfl (by kernel_rfl) (by kernel_rfl) (by kernel_rfl) (fun _ _ _ h => h) (Or.inr ⟨by rfl, rfl⟩) hHeld ?_; simp only [List.getElem_toArray, List.getElem_cons_zero, List.getElem_cons_succ, Act.put, List.setIfInBounds_toArray, List.set_cons_zero, List.set_cons_succ])
    first | (refine wpAnyH_take (i := 19) (v := ?_) rfl (by kernel_rfl) (by kernel_rfl) (by kernel_rfl) (fun _ _ _ h => h) (Or.inl ⟨by rfl, ?_⟩) hHeld ?_; rotate_left; (intro w hSw; (obtain ⟨z0, z1, _⟩ := hSw.z.two; obtain ⟨s0, s1, _⟩ := hSw.s.two; obtain ⟨k0, k1, _⟩ := hSw.k.two; obtain ⟨u0, u1, _⟩ := hSw.u.two; clear hSw); (go_simp <;> with_reducible rfl)); simp only [List.getElem_toArray, List.getElem_cons_zero, List.getElem_cons_succ, Act.put, List.setIfInBounds_toArray, List.set_cons_zero, List.set_cons_succ]) | (refine wpAnyH_take (i := 19) (v := undef) rfl (by kernel_rfl) (by kernel_rfl) (by kernel_rfl) (fun _ _ _ h => h) (Or.inr ⟨by rfl, rfl⟩) hHeld ?_; simp only [List.getElem_toArray, List.getElem_cons_zero, List.getElem_cons_succ, Act.put, List.setIfInBounds_toArray, List.set_cons_zero, List.set_cons_succ])
    (refine wpAnyH_take (i := 20) (v := ?_) rfl (by kernel_rfl) (by kernel_rfl) (by kernel_rfl) (fun _ _ _ h => h) (Or.inl ⟨by rfl, ?_⟩) hHeld ?_; rotate_left; (intro w hSw; (obtain ⟨z0, z1, _⟩ := hSw.z.two; obtain ⟨s0, s1, _⟩ := hSw.s.two; obtain ⟨k0, k1, _⟩ := hSw.k.two; obtain ⟨u0, u1, _⟩ := hSw.u.two; clear hSw); (go_simp <;> with_reducible rfl)); simp only [List.getElem_toArray, List.getElem_cons_zero, List.getElem_cons_succ, Act.put, List.setIfInBounds_toArray, List.set_cons_zero, List.set_cons_succ])
    (refine wpAnyH_take (i := 21) (v := ?_) rfl (by kernel_rfl) (by kernel_rfl) (by kernel_rfl) (fun _ _ _ h => h) (Or.inl ⟨by rfl, ?_⟩) hHeld ?_; rotate_left; (intro w hSw; (obtain ⟨z0, z1, _⟩ := hSw.z.two; obtain ⟨s0, s1, _⟩ := hSw.s.two; obtain ⟨k0, k1, _⟩ := hSw.k.two; obtain ⟨u0, u1, _⟩ := hSw.u.two; clear hSw); (go_simp <;> with_reducible rfl)); simp only [List.getElem_toArray, List.getElem_cons_zero, List.getElem_cons_succ, Act.put, List.setIfInBounds_toArray, List.set_cons_zero, List.set_cons_succ])
    first | (refine wpAnyH_take (i := 22) (v := ?_) rfl (by kernel_rfl) (by kernel_rfl) (by kernel_rfl) (fun _ _ _ h => h) (Or.inl ⟨by rfl, ?_⟩) hHeld ?_; rotate_left; (intro w hSw; (obtain ⟨z0, z1, _⟩ := hSw.z.two; obtain ⟨s0, s1, _⟩ := hSw.s.two; obtain ⟨k0, k1, _⟩ := hSw.k.two; obtain ⟨u0, u1, _⟩ := hSw.u.two; clear hSw); (go_simp <;> with_reducible rfl)); simp only [List.getElem_toArray, List.getElem_cons_zero, List.getElem_cons_succ, Act.put, List.setIfInBounds_toArray, List.set_cons_zero, List.set_cons_succ]) | (refine wpAnyH_take (i := 22) (v := undef) rfl (by kernel_rfl) (by kernel_rfl) (by kernel_rfl) (fun _ _ _ h => h) (Or.inr ⟨by rfl, rfl⟩) hHeld ?_; simp only [List.getElem_toArray, List.getElem_cons_zero, List.getElem_cons_succ, Act.put, List.setIfInBounds_toArray, List.set_cons_zero, List.set_cons_succ])
    first | (refine wpAnyH_take (i := 23) (v := ?_) rfl (by kernel_rfl) (by kernel_rfl) (by kernel_rfl) (fun _ _ _ h => h) (Or.inl ⟨by rfl, ?_⟩) hHeld ?_; rotate_left; (intro w hSw; (obtain ⟨z0, z1, _⟩ := hSw.z.two; obtain ⟨s0, s1, _⟩ := hSw.s.two; obtain ⟨k0, k1, _⟩ := hSw.k.two; obtain ⟨u0, u1, _⟩ := hSw.u.two; clear hSw); (go_simp <;> with_reducible rfl)); simp only [List.getElem_toArray, List.getElem_cons_zero, List.getElem_cons_succ, Act.put, List.setIfInBounds_toArray, List.set_cons_zero, List.set_cons_succ]) | (refine wpAnyH_take (i := 23) (v := undef) rfl (by kernel_rfl) (by kernel_rfl) (by kernel_rfl) (fun _ _ _ h => h) (Or.inr ⟨by rfl, rfl⟩) hHeld ?_; simp only [List.getElem_toArray, List.getElem_cons_zero, List.getElem_cons_succ, Act.put, List.setIfInBounds_toArray, List.set_cons_zero, List.set_cons_succ])
    first | (refine wpAnyH_take (i := 24) (v := ?_) rfl (by kernel_rfl) (by kernel_rfl) (by kernel_rfl) (fun _ _ _ h => h) (Or.inl ⟨by rfl, ?_⟩) hHeld ?_; rotate_left; (intro w hSw; (obtain ⟨z0, z1, _⟩ := hSw.z.two; obtain ⟨s0, s1, _⟩ := hSw.s.two; obtain ⟨k0, k1, _⟩ := hSw.k.two; obtain ⟨u0, u1, _⟩ := hSw.u.two; clear hSw); (go_simp <;> with_reducible rfl)); simp only [List.getElem_toArray, List.getElem_cons_zero, List.getElem_cons_succ, Act.put, List.setIfInBounds_toArray, List.set_cons_zero, List.set_cons_succ]) | (refine wpAnyH_take (i := 24) (v := undef) rfl (by kernel_rfl) (by kernel_rfl) (by kernel_rfl) (fun _ _ _ h => h) (Or.inr ⟨by rfl, rfl⟩) hHeld ?_; simp only [List.getElem_toArray, List.getElem_cons_zero, List.getElem_cons_succ, Act.put, List.setIfInBounds_toArray, List.set_cons_zero, List.set_cons_succ])
    first | (refine wpAnyH_take (i := 25) (v := undef) rfl (by kernel_rfl) (by kernel_rfl) (by kernel_rfl) (fun _ _ _ h => h) (Or.inr ⟨by rfl, rfl⟩) hHeld ?_; simp only [List.getElem_toArray, List.getElem_cons_zero, List.getElem_cons_succ, Act.put, List.setIfInBounds_toArray, List.set_cons_zero, List.set_cons_succ]) | (refine wpAnyH_ready (rs := [25]) (by kernel_rfl) (by simp) ?_; refine AllReadyH.cons rfl (fun K hK => ?_) AllReadyH.nil; go_simp; (refine (HSU.out _).mono ?_; rintro e w11 ⟨rfl, hbU⟩; have hK3 := hHeld.later hbU); refine hK.out _ _ ?_ (fun hHeld => ?_); (assumption); clear hK K; try dsimp only)
    first | (refine wpAnyH_take (i := 26) (v := ?_) rfl (by kernel_rfl) (by kernel_rfl) (by kernel_rfl) (fun _ _ _ h => h) (Or.inl ⟨by rfl, ?_⟩) hHeld ?_; rotate_left; (intro w hSw; (obtain ⟨z0, z1, _⟩ := hSw.z.two; obtain ⟨s0, s1, _⟩ := hSw.s.two; obtain ⟨k0, k1, _⟩ := hSw.k.two; obtain ⟨u0, u1, _⟩ := hSw.u.two; clear hSw); (go_simp <;> with_reducible rfl)); simp only [List.getElem_toArray, List.getElem_cons_zero, List.getElem_cons_succ, Act.put, List.setIfInBounds_toArray, List.set_cons_zero, List.set_cons_succ]) | (refine wpAnyH_take (i := 26) (v := undef) rfl (by kernel_rfl) (by kernel_rfl) (by kernel_rfl) (fun _ _ _ h => h) (Or.inr ⟨by rfl, rfl⟩) hHeld ?_; simp only [List.getElem_toArray, List.getElem_cons_zero, List.getElem_cons_succ, Act.put, List.setIfInBounds_toArray, List.set_cons_zero, List.set_cons_succ])
    first | (refine wpAnyH_take (i := 27) (v := ?_) rfl (by kernel_rfl) (by kernel_rfl) (by kernel_rfl) (fun _ _ _ h => h) (Or.inl ⟨by rfl, ?_⟩) hHeld ?_; rotate_left; (intro w hSw; (obtain ⟨z0, z1, _⟩ := hSw.z.two; obtain ⟨s0, s1, _⟩ := hSw.s.two; obtain ⟨k0, k1, _⟩ := hSw.k.two; obtain ⟨u0, u1, _⟩ := hSw.u.two; clear hSw); (go_simp <;> with_reducible rfl)); simp only [List.getElem_toArray, List.getElem_cons_zero, List.getElem_cons_succ, Act.put, List.setIfInBounds_toArray, List.set_cons_zero, List.set_cons_succ]) | (refine wpAnyH_take (i := 27) (v := undef) rfl (by kernel_rfl) (by kernel_rfl) (by kernel_rfl) (fun _ _ _ h => h) (Or.inr ⟨by rfl, rfl⟩) hHeld ?_; simp only [List.getElem_toArray, List.getElem_cons_zero, List.getElem_cons_succ, Act.put, List.setIfInBounds_toArray, List.set_cons_zero, List.set_cons_succ])
    (refine wpAnyH_take (i := 28) (v := ?_) rfl (by kernel_rfl) (by kernel_rfl) (by kernel_rfl) (fun _ _ _ h => h) (Or.inl ⟨by rfl, ?_⟩) hHeld ?_; rotate_left; (intro w hSw; (obtain ⟨z0, z1, _⟩ := hSw.z.two; obtain ⟨s0, s1, _⟩ := hSw.s.two; obtain ⟨k0, k1, _⟩ := hSw.k.two; obtain ⟨u0, u1, _⟩ := hSw.u.two; clear hSw); (go_simp <;> with_reducible rfl)); simp only [List.getElem_toArray, List.getElem_cons_zero, List.getElem_cons_succ, Act.put, List.setIfInBounds_toArray, List.set_cons_zero, List.set_cons_succ])
    refine wpAnyH_done (by kernel_rfl) ?_ _
    refine NoPanic.normal ?_
    have HK9 := hid hHeld
    clear hHeld hK1 hK2 hK3 hb9 hoS hbS hbU HK hKd HSZ HSK HSU
    go_upto_region 12 with fail
    go_cut [85] from 56 to 85 (fun t wc => t = .bool false ∧ Hid (KZ w Z S K U zc zo kc uc uo (.slice avs ls.length cvs) (.slice avk ks.length cvk) ls ks wc))
    case first =>
      obtain ⟨u0, u1, _⟩ := HK9.out.u.two
      obtain ⟨k0, k1, _⟩ := HK9.out.k.two
      have HSF := hid implSF_calls
      rcases Huc.out with ⟨h0, hx⟩ | h0
      · subst h0
        have HBk : Hid (zO uo = x) := by show _ = _; rw [← E.out.2.2.2.2.1]; exact back_zig hx
        rcases Hkc.out with ⟨h1, hc⟩ | h1
        · subst h1
          have hks : ks = [cSl c.toNat] := by rw [← E.out.2.2.2.2.2.2]; exact if_pos hc
          have hok : sG (cSl c.toNat) = 0 := cSl_ok (by have := of_inB hc; omega)
          generalize cSl c.toNat = s at *
          obtain ⟨lo, sz, tot⟩ := s
          have hok' : sF lo sz tot = 0 := hok
          subst hks
          clear hok Huc Hkc Hzc E hx hc
          go_wp2_with fail
          refine (HIZ.out uo _).mono ?_
          rintro e w12 ⟨rfl, hb12⟩
          rw [HBk.out]
          have HK12 := hid (HK9.out.later hb12)
          obtain ⟨k0, k1, _⟩ := HK12.out.k.two
          obtain ⟨a', cap', hv, hcs⟩ := HK12.out.ko
          cases hv
          obtain ⟨b, off, rfl, hbl, hcell⟩ := hcs (by simp)
          obtain ⟨c1, c2, c3⟩ := hcell 0 (by simp)
          simp only [Nat.zero_mul, Nat.add_zero, List.getD_cons_zero] at c1 c2 c3
          clear hb12 HK9 hcs hcell u0 u1
          generalize zC uo = zz at *
          simp only [List.length_singleton] at *
          go_wp2_with fail
          refine (HSF.out lo sz tot _).mono ?_
          rintro e w13 ⟨rfl, hb13⟩
          rw [hok']
          have HK13 := hid (HK12.out.later hb13)
          clear hb13 HK12 c1 c2 c3 k0 k1
          go_wp2_with fail
          go_meet
          case rel => exact ⟨rfl, HK13.out⟩
        · subst h1
          clear Huc Hkc Hzc E hx
          go_wp2_with fail
          refine (HIZ.out uo _).mono ?_
          rintro e w12 ⟨rfl, hb12⟩
          rw [HBk.out]
          have HK12 := hid (HK9.out.later hb12)
          obtain ⟨k0, k1, _⟩ := HK12.out.k.two
          clear hb12 HK9 u0 u1
          generalize zC uo = zz at *
          go_wp2_with fail
          go_meet
          case rel => exact ⟨rfl, HK12.out⟩
      · subst h0
        rcases Hkc.out with ⟨h1, hc⟩ | h1
        · subst h1
          have hks : ks = [cSl c.toNat] := by rw [← E.out.2.2.2.2.2.2]; exact if_pos hc
          have hok : sG (cSl c.toNat) = 0 := cSl_ok (by have := of_inB hc; omega)
          generalize cSl c.toNat = s at *
          obtain ⟨lo, sz, tot⟩ := s
          have hok' : sF lo sz tot = 0 := hok
          subst hks
          clear hok Huc Hkc Hzc E hc
          obtain ⟨a', cap', hv, hcs⟩ := HK9.out.ko
          cases hv
          obtain ⟨b, off, rfl, hbl, hcell⟩ := hcs (by simp)
          obtain ⟨c1, c2, c3⟩ := hcell 0 (by simp)
          simp only [Nat.zero_mul, Nat.add_zero, List.getD_cons_zero] at c1 c2 c3
          clear hcs hcell
          simp only [List.length_singleton] at *
          go_wp2_with fail
          refine (HSF.out lo sz tot _).mono ?_
          rintro e w13 ⟨rfl, hb13⟩
          rw [hok']
          have HK13 := hid (HK9.out.later hb13)
          clear hb13 HK9 c1 c2 c3 k0 k1 u0 u1
          go_wp2_with fail
          go_meet
          case rel => exact ⟨rfl, HK13.out⟩
        · subst h1
          clear Huc Hkc Hzc E
          go_wp2_with fail
          go_meet
          case rel => exact ⟨rfl, HK9.out⟩
    case rest =>
      obtain ⟨rfl, hKc⟩ := hcut
      clear HK9 Huc Hkc
      obtain ⟨z0, z1, _⟩ := hKc.out.z.two
      rcases Hzc.out with ⟨h0, hv⟩ | h0
      · subst h0
        have hz := zg_le (show isV v from of_inB hv)
        have hls : ls = zSl (zg v) := by rw [← E.out.2.2.2.2.2.1]; exact if_pos hv
        have hzo : zo = (zg v : Int) := by rw [← E.out.2.2.2.1]; exact if_pos hv
        have Hok : Hid (∀ j, j < ls.length → sG (ls.getD j (0, 0, 0)) = 0) := by rw [hls]; exact mem_ok (zSl_ok (by omega))
        have HBu : Hid (uO zo = v) := by show _ = _; rw [hzo]; exact back_unzig hv
        have hl := zSl_len (zg v)
        rw [← hls] at hl
        have HSS := hid (specSlots_calls v)
        rw [E.out.2.2.2.2.2.1] at HSS
        have hl1 : 1 ≤ (ls.length : Int) ∧ (ls.length : Int) ≤ 3 := by omega
        obtain ⟨hl1, hl3⟩ := hl1
        clear hls hzo hz hv Hzc E hl
        have HSF := hid implSF_calls
        go_wp2_with fail
        go_loopw [10] (fun i wr => ∃ k : Nat, i = .int .i64 (k : Int) ∧ k ≤ ls.length ∧ Hid (KZ w Z S K U 0 zo kc uc uo (.slice avs ls.length cvs) (.slice avk ks.length cvk) ls ks wr)) (fun i _ => ls.length - (intOf i).toNat)
        case atStart => exact ⟨0, rfl, Nat.zero_le _, hKc.out⟩
        case round =>
          clear hKc z0 z1
          obtain ⟨k, rfl, hk, hK⟩ := hrel
          obtain ⟨s0, s1, _⟩ := hK.out.s.two
          by_cases hlt : k < ls.length
          · obtain ⟨a', cap', hv, hcs⟩ := hK.out.so
            cases hv
            obtain ⟨b, off, rfl, hbl, hcell⟩ := hcs (by intro e; rw [e] at hlt; simp at hlt)
            obtain ⟨c1, c2, c3⟩ := hcell k hlt
            have hok := Hok.out k hlt
            clear hcs hcell
            generalize ls.getD k (0, 0, 0) = y at *
            obtain ⟨lo, sz, tot⟩ := y
            have hok' : sF lo sz tot = 0 := hok
            dsimp only at c1 c2 c3
            clear hok
            have hkI : (k : Int) < (ls.length : Int) := by omega
            go_wp2_with fail
            refine (HSF.out lo sz tot _).mono ?_
            rintro e w13 ⟨rfl, hb13⟩
            rw [hok']
            have HK13 := hid (hK.out.later hb13)
            clear hb13 hK c1 c2 c3 s0 s1
            go_wp2
            go_roundw
            case rel => exact ⟨k + 1, by go_num, by omega, HK13.out⟩
            case measure => simp [intOf]; omega
          · obtain rfl : k = ls.length := by omega
            have hKd := hK.out.drew
            have HKk := hid hK.out
            clear hK HSF
            have q1 : decide (1 ≤ (ls.length : Int)) = true := decide_eq_true hl1
            have q2 : decide ((ls.length : Int) ≤ 3) = true := decide_eq_true hl3
            go_wp2_with fail
            refine wp_region_noPanic ?_
            refine wp_region_held_drew (S := fun W => KZ w Z S K U 0 zo kc uc uo (.slice avs ls.length cvs) (.slice avk ks.length cvk) ls ks W) (by kernel_rfl) ?_ (fun hHeld => ?_)
            · assumption
            (refine wpAnyH_take (i := 0) (v := ?_) rfl (by kernel_rfl) (by kernel_rfl) (by kernel_rfl) (fun _ _ _ h => h) (Or.inl ⟨by rfl, ?_⟩) hHeld ?_; rotate_left; (intro w hSw; (obtain ⟨z0, z1, _⟩ := hSw.z.two; obtain ⟨s0, s1, _⟩ := hSw.s.two; clear hSw); (go_simp <;> with_reducible rfl)); simp only [List.getElem_toArray, List.getElem_cons_zero, Act.put, List.setIfInBounds_toArray, List.set_cons_zero, List.set_cons_succ])
            (refine wpAnyH_take (i := 1) (v := ?_) rfl (by kernel_rfl) (by kernel_rfl) (by kernel_rfl) (fun _ _ _ h => h) (Or.inl ⟨by rfl, ?_⟩) hHeld ?_; rotate_left; (intro w hSw; (obtain ⟨z0, z1, _⟩ := hSw.z.two; obtain ⟨s0, s1, _⟩ := hSw.s.two; clear hSw); (go_simp <;> with_reducible rfl)); simp only [List.getElem_toArray, List.getElem_cons_zero, List.getElem_cons_succ, Act.put, List.setIfInBounds_toArray, List.set_cons_zero, List.set_cons_succ])
            (refine wpAnyH_take (i := 4) (v := ?_) rfl (by kernel_rfl) (by kernel_rfl) (by kernel_rfl) (fun _ _ _ h => h) (Or.inl ⟨by rfl, ?_⟩) hHeld ?_; rotate_left; (intro w hSw; (obtain ⟨z0, z1, _⟩ := hSw.z.two; obtain ⟨s0, s1, _⟩ := hSw.s.two; clear hSw); (go_simp <;> with_reducible rfl)); simp only [List.getElem_toArray, List.getElem_cons_zero, List.getElem_cons_succ, Act.put, List.setIfInBounds_toArray, List.set_cons_zero, List.set_cons_succ])
            (refine wpAnyH_ready (rs := [2]) (by kernel_rfl) (by simp) ?_; refine AllReadyH.cons rfl (fun K hK => ?_) AllReadyH.nil; go_simp; (refine (HIU.out _ _).mono ?_; rintro e w9 ⟨rfl, hb9⟩; rw [HBu.out]; have hK1 := hHeld.later hb9); refine hK.out _ _ ?_ (fun hHeld => ?_); (assumption); clear hK K; try dsimp only)
            (refine wpAnyH_take (i := 3) (v := ?_) rfl (by kernel_rfl) (by kernel_rfl) (by kernel_rfl) (fun _ _ _ h => h) (Or.inl ⟨by rfl, ?_⟩) hHeld ?_; rotate_left; (intro w hSw; (obtain ⟨z0, z1, _⟩ := hSw.z.two; obtain ⟨s0, s1, _⟩ := hSw.s.two; clear hSw); (go_simp <;> with_reducible rfl)); simp only [List.getElem_toArray, List.getElem_cons_zero, List.getElem_cons_succ, Act.put, List.setIfInBounds_toArray, List.set_cons_zero, List.set_cons_succ])
            (refine wpAnyH_take (i := 5) (v := ?_) rfl (by kernel_rfl) (by kernel_rfl) (by kernel_rfl) (fun _ _ _ h => h) (Or.inl ⟨by rfl, ?_⟩) hHeld ?_; rotate_left; (intro w hSw; (obtain ⟨z0, z1, _⟩ := hSw.z.two; obtain ⟨s0, s1, _⟩ := hSw.s.two; clear hSw); (go_simp <;> with_reducible rfl)); simp only [List.getElem_toArray, List.getElem_cons_zero, List.getElem_cons_succ, Act.put, List.setIfInBounds_toArray, List.set_cons_zero, List.set_cons_succ])
            (refine wpAnyH_take (i := 6) (v := ?_) rfl (by kernel_rfl) (by kernel_rfl) (by kernel_rfl) (fun _ _ _ h => h) (Or.inl ⟨by rfl, ?_⟩) hHeld ?_; rotate_left; (intro w hSw; (obtain ⟨z0, z1, _⟩ := hSw.z.two; obtain ⟨s0, s1, _⟩ := hSw.s.two; clear hSw); (go_simp <;> with_reducible rfl)); simp only [List.getElem_toArray, List.getElem_cons_zero, List.getElem_cons_succ, Act.put, List.setIfInBounds_toArray, List.set_cons_zero, List.set_cons_succ])
            first | (refine wpAnyH_take (i := 7) (v := ?_) rfl (by kernel_rfl) (by kernel_rfl) (by kernel_rfl) (fun _ _ _ h => h) (Or.inl ⟨by rfl, ?_⟩) hHeld ?_; rotate_left; (intro w hSw; (obtain ⟨z0, z1, _⟩ := hSw.z.two; obtain ⟨s0, s1, _⟩ := hSw.s.two; clear hSw); (go_simp <;> with_reducible rfl)); simp only [List.getElem_toArray, List.getElem_cons_zero, List.getElem_cons_succ, Act.put, List.setIfInBounds_toArray, List.set_cons_zero, List.set_cons_succ]) | (refine wpAnyH_take (i := 7) (v := undef) rfl (by kernel_rfl) (by kernel_rfl) (by kernel_rfl) (fun _ _ _ h => h) (Or.inr ⟨by rfl, rfl⟩) hHeld ?_; simp only [List.getElem_toArray, List.getElem_cons_zero, List.getElem_cons_succ, Act.put, List.setIfInBounds_toArray, List.set_cons_zero, List.set_cons_succ])
            first | (refine wpAnyH_take (i := 8) (v := ?_) rfl (by kernel_rfl) (by kernel_rfl) (by kernel_rfl) (fun _ _ _ h => h) (Or.inl ⟨by rfl, ?_⟩) hHeld ?_; rotate_left; (intro w hSw; (obtain ⟨z0, z1, _⟩ := hSw.z.two; obtain ⟨s0, s1, _⟩ := hSw.s.two; clear hSw); (go_simp <;> with_reducible rfl)); simp only [List.getElem_toArray, List.getElem_cons_zero, List.getElem_cons_succ, Act.put, List.setIfInBounds_toArray, List.set_cons_zero, List.set_cons_succ]) | (refine wpAnyH_take (i := 8) (v := undef) rfl (by kernel_rfl) (by kernel_rfl) (by kernel_rfl) (fun _ _ _ h => h) (Or.inr ⟨by rfl, rfl⟩) hHeld ?_; simp only [List.getElem_toArray, List.getElem_cons_zero, List.getElem_cons_succ, Act.put, List.setIfInBounds_toArray, List.set_cons_zero, List.set_cons_succ])
            first | (refine wpAnyH_take (i := 9) (v := ?_) rfl (by kernel_rfl) (by kernel_rfl) (by kernel_rfl) (fun _ _ _ h => h) (Or.inl ⟨by rfl, ?_⟩) hHeld ?_; rotate_left; (intro w hSw; (obtain ⟨z0, z1, _⟩ := hSw.z.two; obtain ⟨s0, s1, _⟩ := hSw.s.two; clear hSw); (go_simp <;> with_reducible rfl)); simp only [List.getElem_toArray, List.getElem_cons_zero, List.getElem_cons_succ, Act.put, List.setIfInBounds_toArray, List.set_cons_zero, List.set_cons_succ]) | (refine wpAnyH_take (i := 9) (v := undef) rfl (by kernel_rfl) (by kernel_rfl) (by kernel_rfl) (fun _ _ _ h => h) (Or.inr ⟨by rfl, rfl⟩) hHeld ?_; simp only [List.getElem_toArray, List.getElem_cons_zero, List.getElem_cons_succ, Act.put, List.setIfInBounds_toArray, List.set_cons_zero, List.set_cons_succ])
            first | (refine wpAnyH_take (i := 10) (v := ?_) rfl (by kernel_rfl) (by kernel_rfl) (by kernel_rfl) (fun _ _ _ h => h) (Or.inl ⟨by rfl, ?_⟩) hHeld ?_; rotate_left; (intro w hSw; (obtain ⟨z0, z1, _⟩ := hSw.z.two; obtain ⟨s0, s1, _⟩ := hSw.s.two; clear hSw); (go_simp <;> with_reducible rfl)); simp only [List.getElem_toArray, List.getElem_cons_zero, List.getElem_cons_succ, Act.put, List.setIfInBounds_toArray, List.set_cons_zero, List.set_cons_succ]) | (refine wpAnyH_take (i := 10) (v := undef) rfl (by kernel_rfl) (by kernel_rfl) (by kernel_rfl) (fun _ _ _ h => h) (Or.inr ⟨by rfl, rfl⟩) hHeld ?_; simp only [List.getElem_toArray, List.getElem_cons_zero, List.getElem_cons_succ, Act.put, List.setIfInBounds_toArray, List.set_cons_zero, List.set_cons_succ])
            (refine wpAnyH_take (i := 11) (v := ?_) rfl (by kernel_rfl) (by kernel_rfl) (by kernel_rfl) (fun _ _ _ h => h) (Or.inl ⟨by rfl, ?_⟩) hHeld ?_; rotate_left; (intro w hSw; (obtain ⟨z0, z1, _⟩ := hSw.z.two; obtain ⟨s0, s1, _⟩ := hSw.s.two; clear hSw); (go_simp <;> with_reducible rfl)); simp only [List.getElem_toArray, List.getElem_cons_zero, List.getElem_cons_succ, Act.put, List.setIfInBounds_toArray, List.set_cons_zero, List.set_cons_succ])
            (refine wpAnyH_take (i := 12) (v := ?_) rfl (by kernel_rfl) (by kernel_rfl) (by kernel_rfl) (fun _ _ _ h => h) (Or.inl ⟨by rfl, ?_⟩) hHeld ?_; rotate_left; (intro w hSw; (obtain ⟨z0, z1, _⟩ := hSw.z.two; obtain ⟨s0, s1, _⟩ := hSw.s.two; clear hSw); (go_simp <;> with_reducible rfl)); simp only [List.getElem_toArray, List.getElem_cons_zero, List.getElem_cons_succ, Act.put, List.setIfInBounds_toArray, List.set_cons_zero, List.set_cons_succ])
            first | (refine wpAnyH_take (i := 13) (v := ?_) rfl (by kernel_rfl) (by kernel_rfl) (by kernel_rfl) (fun _ _ _ h => h) (Or.inl ⟨by rfl, ?_⟩) hHeld ?_; rotate_left; (intro w hSw; (obtain ⟨z0, z1, _⟩ := hSw.z.two; obtain ⟨s0, s1, _⟩ := hSw.s.two; clear hSw); (go_simp <;> with_reducible rfl)); simp only [List.getElem_toArray, List.getElem_cons_zero, List.getElem_cons_succ, Act.put, List.setIfInBounds_toArray, List.set_cons_zero, List.set_cons_succ]) | (refine wpAnyH_take (i := 13) (v := undef) rfl (by kernel_rfl) (by kernel_rfl) (by kernel_rfl) (fun _ _ _ h => h) (Or.inr ⟨by rfl, rfl⟩) hHeld ?_; simp only [List.getElem_toArray, List.getElem_cons_zero, List.getElem_cons_succ, Act.put, List.setIfInBounds_toArray, List.set_cons_zero, List.set_cons_succ])
            first | (refine wpAnyH_take (i := 14) (v := ?_) rfl (by kernel_rfl) (by kernel_rfl) (by kernel_rfl) (fun _ _ _ h => h) (Or.inl ⟨by rfl, ?_⟩) hHeld ?_; rotate_left; (intro w hSw; (obtain ⟨z0, z1, _⟩ := hSw.z.two; obtain ⟨s0, s1, _⟩ := hSw.s.two; clear hSw); (go_simp <;> with_reducible rfl)); simp only [List.getElem_toArray, List.getElem_cons_zero, List.getElem_cons_succ, Act.put, List.setIfInBounds_toArray, List.set_cons_zero, List.set_cons_succ]) | (refine wpAnyH_take (i := 14) (v := undef) rfl (by kernel_rfl) (by kernel_rfl) (by kernel_rfl) (fun _ _ _ h => h) (Or.inr ⟨by rfl, rfl⟩) hHeld ?_; simp only [List.getElem_toArray, List.getElem_cons_zero, List.getElem_cons_succ, Act.put, List.setIfInBounds_toArray, List.set_cons_zero, List.set_cons_succ])
            first | (refine wpAnyH_take (i := 15) (v := ?_) rfl (by kernel_rfl) (by kernel_rfl) (by kernel_rfl) (fun _ _ _ h => h) (Or.inl ⟨by rfl, ?_⟩) hHeld ?_; rotate_left; (intro w hSw; (obtain ⟨z0, z1, _⟩ := hSw.z.two; obtain ⟨s0, s1, _⟩ := hSw.s.two; clear hSw); (go_simp <;> with_reducible rfl)); simp only [List.getElem_toArray, List.getElem_cons_zero, List.getElem_cons_succ, Act.put, List.setIfInBounds_toArray, List.set_cons_zero, List.set_cons_succ]) | (refine wpAnyH_take (i := 15) (v := undef) rfl (by kernel_rfl) (by kernel_rfl) (by kernel_rfl) (fun _ _ _ h => h) (Or.inr ⟨by rfl, rfl⟩) hHeld ?_; simp only [List.getElem_toArray, List.getElem_cons_zero, List.getElem_cons_succ, Act.put, List.setIfInBounds_toArray, List.set_cons_zero, List.set_cons_succ])
            first | (refine wpAnyH_take (i := 16) (v := ?_) rfl (by kernel_rfl) (by kernel_rfl) (by kernel_rfl) (fun _ _ _ h => h) (Or.inl ⟨by rfl, ?_⟩) hHeld ?_; rotate_left; (intro w hSw; (obtain ⟨z0, z1, _⟩ := hSw.z.two; obtain ⟨s0, s1, _⟩ := hSw.s.two; clear hSw); (go_simp <;> with_reducible rfl)); simp only [List.getElem_toArray, List.getElem_cons_zero, List.getElem_cons_succ, Act.put, List.setIfInBounds_toArray, List.set_cons_zero, List.set_cons_succ]) | (refine wpAnyH_take (i := 16) (v := undef) rfl (by kernel_rfl) (by kernel_rfl) (by kernel_rfl) (fun _ _ _ h => h) (Or.inr ⟨by rfl, rfl⟩) hHeld ?_; simp only [List.getElem_toArray, List.getElem_cons_zero, List.getElem_cons_succ, Act.put, List.setIfInBounds_toArray, List.set_cons_zero, List.set_cons_succ])
            (refine wpAnyH_take (i := 17) (v := ?_) rfl (by kernel_rfl) (by kernel_rfl) (by kernel_rfl) (fun _ _ _ h => h) (Or.inl ⟨by rfl, ?_⟩) hHeld ?_; rotate_left; (intro w hSw; (obtain ⟨z0, z1, _⟩ := hSw.z.two; obtain ⟨s0, s1, _⟩ := hSw.s.two; clear hSw); (go_simp <;> with_reducible rfl)); simp only [List.getElem_toArray, List.getElem_cons_zero, List.getElem_cons_succ, Act.put, List.setIfInBounds_toArray, List.set_cons_zero, List.set_cons_succ])
            (refine wpAnyH_take (i := 18) (v := ?_) rfl (by kernel_rfl) (by kernel_rfl) (by kernel_rfl) (fun _ _ _ h => h) (Or.inl ⟨by rfl, ?_⟩) hHeld ?_; rotate_left; (intro w hSw; (obtain ⟨z0, z1, _⟩ := hSw.z.two; obtain ⟨s0, s1, _⟩ := hSw.s.two; clear hSw); (go_simp <;> with_reducible rfl)); simp only [List.getElem_toArray, List.getElem_cons_zero, List.getElem_cons_succ, Act.put, List.setIfInBounds_toArray, List.set_cons_zero, List.set_cons_succ])
            first | (refine wpAnyH_take (i := 19) (v := ?_) rfl (by kernel_rfl) (by kernel_rfl) (by kernel_rfl) (fun _ _ _ h => h) (Or.inl ⟨by rfl, ?_⟩) hHeld ?_; rotate_left; (intro w hSw; (obtain ⟨z0, z1, _⟩ := hSw.z.two; obtain ⟨s0, s1, _⟩ := hSw.s.two; clear hSw); (go_simp <;> with_reducible rfl)); simp only [List.getElem_toArray, List.getElem_cons_zero, List.getElem_cons_succ, Act.put, List.setIfInBounds_toArray, List.set_cons_zero, List.set_cons_succ]) | (refine wpAnyH_take (i := 19) (v := undef) rfl (by kernel_rfl) (by kernel_rfl) (by kernel_rfl) (fun _ _ _ h => h) (Or.inr ⟨by rfl, rfl⟩) hHeld ?_; simp only [List.getElem_toArray, List.getElem_cons_zero, List.getElem_cons_succ, Act.put, List.setIfInBounds_toArray, List.set_cons_zero, List.set_cons_succ])
            first | (refine wpAnyH_take (i := 20) (v := ?_) rfl (by kernel_rfl) (by kernel_rfl) (by kernel_rfl) (fun _ _ _ h => h) (Or.inl ⟨by rfl, ?_⟩) hHeld ?_; rotate_left; (intro w hSw; (obtain ⟨z0, z1, _⟩ := hSw.z.two; obtain ⟨s0, s1, _⟩ := hSw.s.two; clear hSw); (go_simp <;> with_reducible rfl)); simp only [List.getElem_toArray, List.getElem_cons_zero, List.getElem_cons_succ, Act.put, List.setIfInBounds_toArray, List.set_cons_zero, List.set_cons_succ]) | (refine wpAnyH_take (i := 20) (v := undef) rfl (by kernel_rfl) (by kernel_rfl) (by kernel_rfl) (fun _ _ _ h => h) (Or.inr ⟨by rfl, rfl⟩) hHeld ?_; simp only [List.getElem_toArray, List.getElem_cons_zero, List.getElem_cons_succ, Act.put, List.setIfInBounds_toArray, List.set_cons_zero, List.set_cons_succ])
            first | (refine wpAnyH_take (i := 21) (v := ?_) rfl (by kernel_rfl) (by kernel_rfl) (by kernel_rfl) (fun _ _ _ h => h) (Or.inl ⟨by rfl, ?_⟩) hHeld ?_; rotate_left; (intro w hSw; (obtain ⟨z0, z1, _⟩ := hSw.z.two; obtain ⟨s0, s1, _⟩ := hSw.s.two; clear hSw); (go_simp <;> with_reducible rfl)); simp only [List.getElem_toArray, List.getElem_cons_zero, List.getElem_cons_succ, Act.put, List.setIfInBounds_toArray, List.set_cons_zero, List.set_cons_succ]) | (refine wpAnyH_take (i := 21) (v := undef) rfl (by kernel_rfl) (by kernel_rfl) (by kernel_rfl) (fun _ _ _ h => h) (Or.inr ⟨by rfl, rfl⟩) hHeld ?_; simp only [List.getElem_toArray, List.getElem_cons_zero, List.getElem_cons_succ, Act.put, List.setIfInBounds_toArray, List.set_cons_zero, List.set_cons_succ])
            first | (refine wpAnyH_take (i := 22) (v := ?_) rfl (by kernel_rfl) (by kernel_rfl) (by kernel_rfl) (fun _ _ _ h => h) (Or.inl ⟨by rfl, ?_⟩) hHeld ?_; rotate_left; (intro w hSw; (obtain ⟨z0, z1, _⟩ := hSw.z.two; obtain ⟨s0, s1, _⟩ := hSw.s.two; clear hSw); (go_simp <;> with_reducible rfl)); simp only [List.getElem_toArray, List.getElem_cons_zero, List.getElem_cons_succ, Act.put, List.setIfInBounds_toArray, List.set_cons_zero, List.set_cons_succ]) | (refine wpAnyH_take (i := 22) (v := undef) rfl (by kernel_rfl) (by kernel_rfl) (by kernel_rfl) (fun _ _ _ h => h) (Or.inr ⟨by rfl, rfl⟩) hHeld ?_; simp only [List.getElem_toArray, List.getElem_cons_zero, List.getElem_cons_succ, Act.put, List.setIfInBounds_toArray, List.set_cons_zero, List.set_cons_succ])
            first | (refine wpAnyH_take (i := 23) (v := undef) rfl (by kernel_rfl) (by kernel_rfl) (by kernel_rfl) (fun _ _ _ h => h) (Or.inr ⟨by rfl, rfl⟩) hHeld ?_; simp only [List.getElem_toArray, List.getElem_cons_zero, List.getElem_cons_succ, Act.put, List.setIfInBounds_toArray, List.set_cons_zero, List.set_cons_succ]) | (refine wpAnyH_ready (rs := [23]) (by kernel_rfl) (by simp) ?_; refine AllReadyH.cons rfl (fun K hK => ?_) AllReadyH.nil; go_simp; (refine (HSS.out _).mono ?_; rintro e w10 ⟨vS, rfl, hoS, hbS⟩; obtain ⟨aS, cS, rfl, _⟩ := hoS.sls; have hK2 := hHeld.later hbS); refine hK.out _ _ ?_ (fun hHeld => ?_); (assumption); clear hK K; try dsimp only)
            first | (refine wpAnyH_take (i := 24) (v := ?_) rfl (by kernel_rfl) (by kernel_rfl) (by kernel_rfl) (fun _ _ _ h => h) (Or.inl ⟨by rfl, ?_⟩) hHeld ?_; rotate_left; (intro w hSw; (obtain ⟨z0, z1, _⟩ := hSw.z.two; obtain ⟨s0, s1, _⟩ := hSw.s.two; clear hSw); (go_simp <;> with_reducible rfl)); simp only [List.getElem_toArray, List.getElem_cons_zero, List.getElem_cons_succ, Act.put, List.setIfInBounds_toArray, List.set_cons_zero, List.set_cons_succ]) | (refine wpAnyH_take (i := 24) (v := undef) rfl (by kernel_rfl) (by kernel_rfl) (by kernel_rfl) (fun _ _ _ h => h) (Or.inr ⟨by rfl, rfl⟩) hHeld ?_; simp only [List.getElem_toArray, List.getElem_cons_zero, List.getElem_cons_succ, Act.put, List.setIfInBounds_toArray, List.set_cons_zero, List.set_cons_succ])
            first | (refine wpAnyH_take (i := 25) (v := ?_) rfl (by kernel_rfl) (by kernel_rfl) (by kernel_rfl) (fun _ _ _ h => h) (Or.inl ⟨by rfl, ?_⟩) hHeld ?_; rotate_left; (intro w hSw; (obtain ⟨z0, z1, _⟩ := hSw.z.two; obtain ⟨s0, s1, _⟩ := hSw.s.two; clear hSw); (go_simp <;> with_reducible rfl)); simp only [List.getElem_toArray, List.getElem_cons_zero, List.getElem_cons_succ, Act.put, List.setIfInBounds_toArray, List.set_cons_zero, List.set_cons_succ]) | (refine wpAnyH_take (i := 25) (v := undef) rfl (by kernel_rfl) (by kernel_rfl) (by kernel_rfl) (fun _ _ _ h => h) (Or.inr ⟨by rfl, rfl⟩) hHeld ?_; simp only [List.getElem_toArray, List.getElem_cons_zero, List.getElem_cons_succ, Act.put, List.setIfInBounds_toArray, List.set_cons_zero, List.set_cons_succ])
            first | (refine wpAnyH_take (i := 26) (v := ?_) rfl (by kernel_rfl) (by kernel_rfl) (by kernel_rfl) (fun _ _ _ h => h) (Or.inl ⟨by rfl, ?_⟩) hHeld ?_; rotate_left; (intro w hSw; (obtain ⟨z0, z1, _⟩ := hSw.z.two; obtain ⟨s0, s1, _⟩ := hSw.s.two; clear hSw); (go_simp <;> with_reducible rfl)); simp only [List.getElem_toArray, List.getElem_cons_zero, List.getElem_cons_succ, Act.put, List.setIfInBounds_toArray, List.set_cons_zero, List.set_cons_succ]) | (refine wpAnyH_take (i := 26) (v := undef) rfl (by kernel_rfl) (by kernel_rfl) (by kernel_rfl) (fun _ _ _ h => h) (Or.inr ⟨by rfl, rfl⟩) hHeld ?_; simp only [List.getElem_toArray, List.getElem_cons_zero, List.getElem_cons_succ, Act.put, List.setIfInBounds_toArray, List.set_cons_zero, List.set_cons_succ])
            (refine wpAnyH_take (i := 27) (v := ?_) rfl (by kernel_rfl) (by kernel_rfl) (by kernel_rfl) (fun _ _ _ h => h) (Or.inl ⟨by rfl, ?_⟩) hHeld ?_; rotate_left; (intro w hSw; (obtain ⟨z0, z1, _⟩ := hSw.z.two; obtain ⟨s0, s1, _⟩ := hSw.s.two; clear hSw); (go_simp <;> with_reducible rfl)); simp only [List.getElem_toArray, List.getElem_cons_zero, List.getElem_cons_succ, Act.put, List.setIfInBounds_toArray, List.set_cons_zero, List.set_cons_succ])
            (refine wpAnyH_take (i := 28) (v := ?_) rfl (by kernel_rfl) (by kernel_rfl) (by kernel_rfl) (fun _ _ _ h => h) (Or.inl ⟨by rfl, ?_⟩) hHeld ?_; rotate_left; (intro w hSw; (obtain ⟨z0, z1, _⟩ := hSw.z.two; obtain ⟨s0, s1, _⟩ := hSw.s.two; clear hSw); (go_simp <;> with_reducible rfl)); simp only [List.getElem_toArray, List.getElem_cons_zero, List.getElem_cons_succ, Act.put, List.setIfInBounds_toArray, List.set_cons_zero, List.set_cons_succ])
            refine wpAnyH_done (by kernel_rfl) ?_ _
            refine NoPanic.normal ?_
            have HL := hid hHeld.b
            clear hHeld hK1 hK2 hb9 hoS hbS hKd HKk
            go_wp2
            go_ret
            exact ⟨rfl, HL.out⟩
      · subst h0
        have HL := hid hKc.out.b
        clear hKc Hzc E
        go_wp2
        go_ret
        exact ⟨rfl, HL.out⟩
end Go.Proofs.Ytionfgcdgflcjaa.ZigW
