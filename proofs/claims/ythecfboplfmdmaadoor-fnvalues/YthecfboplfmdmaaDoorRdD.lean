/- The program's DecodeValues: what cannot be read is a panic, recovered at the face. -/
import Derived.Test.YthecfboplfmdmaaDoorRdL
import Derived.Defers
import Derived.Recover
namespace Go.Proofs.YthecfboplfmdmaaDoor.RdD
open Go.ChangeShapes Go.WideShapes Go.ChangeAt Go.RowKit Go.Proofs.YthecfboplfmdmaaDoor.Num Go.Proofs.YthecfboplfmdmaaDoor.Sli Go.Proofs.YthecfboplfmdmaaDoor.App Go.Proofs.YthecfboplfmdmaaDoor.CrcM Go.Proofs.YthecfboplfmdmaaDoor.Div Go.Proofs.YthecfboplfmdmaaDoor.Dec Go.Proofs.YthecfboplfmdmaaDoor.Blk Go.Proofs.YthecfboplfmdmaaDoor.TakT Go.Proofs.YthecfboplfmdmaaDoor.RangeM Go.Proofs.YthecfboplfmdmaaDoor.ValZ Go.Proofs.YthecfboplfmdmaaDoor.ValM Go.Proofs.YthecfboplfmdmaaDoor.EncV Go.Proofs.YthecfboplfmdmaaDoor.RdM Go.Proofs.YthecfboplfmdmaaDoor.RdL
open Go.Proofs.YthecfboplfmdmaaDoor.IntL (OwI)

/-- The answer of DecodeValues. -/
def deC (xs : List Int) (n : Int) : Int := if 600 < xs.length then 2 else if inB 0 64 n = true then (if okB xs n.toNat = true then 0 else 5) else 3
def deL (xs : List Int) (n : Int) : List Int := if deC xs n = 0 then rV (stD xs) n.toNat else []
theorem de_many {xs : List Int} {n : Int} (h : 600 < xs.length) : deC xs n = 2 ∧ deL xs n = [] := by
  have : deC xs n = 2 := if_pos h
  exact ⟨this, by unfold deL; rw [this]; rfl⟩
theorem de_range {xs : List Int} {n : Int} (h : ¬ 600 < xs.length) (h2 : inB 0 64 n = false) : deC xs n = 3 ∧ deL xs n = [] := by
  have : deC xs n = 3 := by unfold deC; rw [if_neg h, if_neg (by rw [h2]; decide)]
  exact ⟨this, by unfold deL; rw [this]; rfl⟩
theorem de_bad {xs : List Int} {n : Int} (h : ¬ 600 < xs.length) (h2 : inB 0 64 n = true) (h3 : okB xs n.toNat = false) : deC xs n = 5 ∧ deL xs n = [] := by
  have : deC xs n = 5 := by unfold deC; rw [if_neg h, if_pos h2, if_neg (by rw [h3]; decide)]
  exact ⟨this, by unfold deL; rw [this]; rfl⟩
theorem de_ok {xs : List Int} {n : Int} (h : ¬ 600 < xs.length) (h2 : inB 0 64 n = true) (h3 : okB xs n.toNat = true) : deC xs n = 0 ∧ deL xs n = rV (stD xs) n.toNat := by
  have : deC xs n = 0 := by unfold deC; rw [if_neg h, if_pos h2, if_pos h3]
  exact ⟨this, by unfold deL; rw [this]; rfl⟩
theorem deL_small (xs : List Int) (n : Int) : (deL xs n).length ≤ 1048576 := by
  unfold deL
  split
  · rename_i h
    unfold deC at h
    split at h
    · cases h
    · split at h
      · rename_i h2
        have := of_inB h2
        rw [rV_len]
        omega
      · cases h
  · simp
theorem catch_panicking (b : Nat) (c0 c1 : Value) (u : TypeId) (pv : Value) (older : List PanicEntry) (w : World) (hB : Blk w b #[c0, c1] 32) :
    CallsD Tryd.prog 37 #[.pointer (some ⟨b, 0, none⟩)] (.panicking ({ v := .iface u pv, recovered := false } :: older)) w fun e u' w' =>
      e = .returned (.tuple #[]) ∧ u' = .panicking ({ v := .iface u pv, recovered := true } :: older) ∧ w' = (w.setCell ⟨b, 0, none⟩ (.int .i64 5)).setCell ⟨b, 1, none⟩ (.slice none 0 0) := by
  obtain ⟨z0, z1, f0, f1⟩ := hB.two
  refine callsD_of_wpS Tryd.func37 rfl fun c₀ cs hu => ?_
  apply wpS_seq
  apply wpS_region
  simp [wpOpsS, go_sem, recoverD, hu, Tryd.ntmps37, Exit.thenS]
  refine wpS_cond (t := true) (by simp [Act.eval, Array.replicate]) ?_
  simp only [if_true]
  apply wpS_region
  simp [wpOpsS, go_sem, z0, z1, f0, f1, bodyPostS, results, Tryd.results37]
theorem catch_idle (p : Addr) (w : World) :
    CallsD Tryd.prog 37 #[.pointer (some p)] .returning w fun e u' w' => e = .returned (.tuple #[]) ∧ u' = .returning ∧ w' = w := by
  refine callsD_of_wpS Tryd.func37 rfl fun c₀ cs hu => ?_
  apply wpS_seq
  apply wpS_region
  simp [wpOpsS, go_sem, recoverD, hu, Tryd.ntmps37, Exit.thenS]
  refine wpS_cond (t := false) (by simp [Act.eval, Array.replicate]) ?_
  simp only [Bool.false_eq_true, if_false]
  refine wpS_of_wp (wp_skip ?_)
  cases c₀
  simp_all [bodyPostS, results, Tryd.results37]
set_option maxHeartbeats 2000000 in
theorem implDecV_calls (v : Value) (xs : List Int) (n : Int) (w : World) (h : Sl .u8 w v xs) (hx : BytesL xs) (hm : xs.length ≤ 1048576) :
    Calls Tryd.prog 10 #[v, .int .i64 n] w fun e w' => ∃ u, e = .returned (.agg #[.int .i64 (deC xs n), u]) ∧ OwI w.heap.size w' u (deL xs n) ∧ Below w.heap.size w w' := by
  have hmf : ∀ (fn : Fn) (first cap : Array Value) (w : World), (Instr.makeFunc fn first cap).run Tryd.prog w = .ok (.func fn first cap) w := fun _ _ _ _ => rfl
  have HN := hid (Blk.new w #[.int .i64 0, .slice none 0 0] 32)
  have HB := hid (bmore (Below.refl w.heap.size w) (.cells #[.int .i64 0, .slice none 0 0] 32))
  have Hs := hid (h.later HB.out)
  obtain ⟨a, cap, rfl, _⟩ := h
  by_cases hmany : 600 < xs.length
  · obtain ⟨m1, m2⟩ := de_many (n := n) hmany
    have M1 := hid m1
    have M2 := hid m2
    clear m1 m2
    have hI : (600 : Int) < (xs.length : Int) := by omega
    have HL := hid (bmore (Below.refl w.heap.size w) (.cells #[.int .i64 2, .slice none 0 0] 32))
    go_enter_defers Tryd.func10, Tryd.ntmps10
    go_wp2
    exact ⟨.agg #[.int .i64 2, .slice none 0 0], by simp [results, Tryd.results10, go_sem], _, by rw [M1.out], by rw [M2.out]; exact ⟨rfl, .inl ⟨rfl, rfl⟩⟩, HL.out⟩
  · have hI : (xs.length : Int) ≤ 600 := by omega
    cases hin : inB 0 64 n
    · obtain ⟨m1, m2⟩ := de_range hmany hin
      have M1 := hid m1
      have M2 := hid m2
      clear m1 m2
      have HL := hid (bmore (Below.refl w.heap.size w) (.cells #[.int .i64 3, .slice none 0 0] 32))
      go_enter_defers Tryd.func10, Tryd.ntmps10
      go_wp2_with (go_at_call 36; refine (isWithin_calls _ _ _ _).mono ?_; rintro e w' ⟨rfl, rfl⟩; simp only [hin])
      exact ⟨.agg #[.int .i64 3, .slice none 0 0], by simp [results, Tryd.results10, go_sem], _, by rw [M1.out], by rw [M2.out]; exact ⟨rfl, .inl ⟨rfl, rfl⟩⟩, HL.out⟩
    · obtain ⟨b1, b2⟩ := of_inB hin
      obtain ⟨k, rfl⟩ := Int.eq_ofNat_of_zero_le b1
      have HRd := hid (readValues_calls _ xs k _ Hs.out hx (by omega) (by omega))
      rw [World.size_alloc] at HRd
      cases hok : okB xs k
      · obtain ⟨m1, m2⟩ := de_bad hmany hin (show okB xs (k : Int).toNat = false by rw [Int.toNat_natCast]; exact hok)
        have M1 := hid m1
        have M2 := hid m2
        have Hok := hid hok
        clear m1 m2 hok b1 b2
        go_enter_defers Tryd.func10, Tryd.ntmps10
        go_wp2_with (first | (go_at_call 36; refine (isWithin_calls _ _ _ _).mono ?_; rintro e w' ⟨rfl, rfl⟩; simp only [hin]) | fail)
        refine HRd.out.mono ?_
        rintro e w1 ⟨_, hbad, hb⟩
        obtain ⟨pv, rfl⟩ := hbad Hok.out
        have HZ := hid (HN.out.below hb (by omega))
        have HL := hid (below_set2 (HB.out.trans (hb.mono (by omega))) (.int .i64 5) (.slice none 0 0))
        have HE := hid ((HZ.out.set 0 (.int .i64 5)).set 1 (.slice none 0 0))
        clear hbad hb HRd
        go_wp2
        refine leaves_cons (f := 37) (args := #[.pointer (some ⟨w.heap.size, 0, none⟩)]) (by simp) (by simp [go_sem]) ?_
        refine (catch_panicking w.heap.size _ _ 9 pv [] _ HZ.out).mono ?_
        rintro e u' w'' ⟨rfl, rfl, rfl⟩
        obtain ⟨y0, y1, _⟩ := HE.out.two
        exact ⟨.agg #[.int .i64 5, .slice none 0 0], by simp [results, Tryd.results10, go_sem, y0, y1], _, by rw [M1.out], by rw [M2.out]; exact ⟨rfl, .inl ⟨rfl, rfl⟩⟩, HL.out⟩
      · obtain ⟨m1, m2⟩ := de_ok hmany hin (show okB xs (k : Int).toNat = true by rw [Int.toNat_natCast]; exact hok)
        rw [Int.toNat_natCast] at m2
        have M1 := hid m1
        have M2 := hid m2
        have Hok := hid hok
        clear m1 m2 hok b1 b2
        go_enter_defers Tryd.func10, Tryd.ntmps10
        go_wp2_with (first | (go_at_call 36; refine (isWithin_calls _ _ _ _).mono ?_; rintro e w' ⟨rfl, rfl⟩; simp only [hin]) | fail)
        refine HRd.out.mono ?_
        rintro e w1 ⟨hgood, _, hb⟩
        obtain ⟨u1, rfl, ho⟩ := hgood Hok.out
        have HZ := hid (HN.out.below hb (by omega))
        obtain ⟨z0, z1, f0, f1⟩ := HZ.out.two
        have HO := hid (Ow.set2 ho (.int .i64 0) u1)
        have HL := hid (below_set2 (HB.out.trans (hb.mono (by omega))) (.int .i64 0) u1)
        have HE := hid ((HZ.out.set 0 (.int .i64 0)).set 1 u1)
        obtain ⟨a1, c1, rfl, _⟩ := ho.sl
        clear hgood hb HRd ho
        go_wp2
        refine leaves_cons (f := 37) (args := #[.pointer (some ⟨w.heap.size, 0, none⟩)]) (by simp) (by simp [go_sem]) ?_
        refine (catch_idle ⟨w.heap.size, 0, none⟩ _).mono ?_
        rintro e u' w'' ⟨rfl, rfl, rfl⟩
        obtain ⟨y0, y1, _⟩ := HE.out.two
        exact ⟨.agg #[.int .i64 0, .slice a1 (rV (stD xs) k).length c1], by simp [results, Tryd.results10, go_sem, y0, y1], _, by rw [M1.out], by rw [M2.out]; exact HO.out, HL.out⟩
end Go.Proofs.YthecfboplfmdmaaDoor.RdD
