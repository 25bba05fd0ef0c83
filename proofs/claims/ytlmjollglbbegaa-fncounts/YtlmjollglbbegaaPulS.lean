/- The model's pulses: how many there are. Conditions: right lengths and numbers of pulses for what is called; none for what is exported. -/
import Derived.Test.YtlmjollglbbegaaPulM
import Derived.Test.YtlmjollglbbegaaDiv
import Derived.Test.YtlmjollglbbegaaSli
import Derived.Test.YtlmjollglbbegaaIntA
import Derived.Test.YtlmjollglbbegaaBkI
import Derived.Test.YtlmjollglbbegaaBlk
namespace Go.Proofs.Ytlmjollglbbegaa.PulS
open Go.ChangeShapes Go.WideShapes Go.ChangeAt Go.RowKit Go.Proofs.Ytlmjollglbbegaa.Num Go.Proofs.Ytlmjollglbbegaa.Div Go.Proofs.Ytlmjollglbbegaa.Sli Go.Proofs.Ytlmjollglbbegaa.App Go.Proofs.Ytlmjollglbbegaa.Blk Go.Proofs.Ytlmjollglbbegaa.IntL Go.Proofs.Ytlmjollglbbegaa.IntA Go.Proofs.Ytlmjollglbbegaa.BkI Go.Proofs.Ytlmjollglbbegaa.Norm Go.Proofs.Ytlmjollglbbegaa.HalM Go.Proofs.Ytlmjollglbbegaa.PulM

theorem cs_set (ys : List Int) (i : Nat) (x : Int) : (cs ys).setIfInBounds i (.int .i64 x) = cs (ys.set i x) := by simp [cs, List.map_set]
/-- A row: how many pulses there are of a length. -/
def cnI (e : Nat) (j : Nat) : Int := (cnt e j : Int)
def rwL (e k : Nat) : List Int := mkL (k + 1) (cnI e)
theorem rw_zero (k : Nat) : (List.replicate (k + 1) (0 : Int)).set 0 1 = rwL 0 k := by
  unfold rwL
  apply ext_g
  · rw [List.length_set, List.length_replicate, mkL_len]
  · intro i hi
    rw [List.length_set, List.length_replicate] at hi
    rw [mkL_get _ hi, getD_set _ _ _ _ (by rw [List.length_replicate]; exact hi)]
    unfold cnI
    by_cases h : i = 0
    · subst h; rfl
    · rw [if_neg (by omega), show cnt 0 i = if i = 0 then 1 else 0 from rfl, if_neg h]
      rw [List.getD_eq_getElem?_getD, List.getElem?_replicate, if_pos hi]; rfl
theorem rw_get {e k j : Nat} (h : j < k + 1) : (rwL e k).getD j 0 = (cnt e j : Int) := mkL_get _ h
/-- A row and the next one, in blocks apart. -/
structure RW (w : World) (g c : Nat) (xs : List Int) (g2 c2 : Nat) (ys : List Int) (W : World) : Prop where
  r : OwI w.heap.size W (.slice (some ⟨g, 0, none⟩) xs.length c) xs
  n : OwI w.heap.size W (.slice (some ⟨g2, 0, none⟩) ys.length c2) ys
  ne : g2 ≠ g
  b : Below w.heap.size w W
set_option maxRecDepth 100000 in
set_option maxHeartbeats 4000000 in
theorem l11Count_calls (d k : Nat) (w : World) (hd : d ≤ 4) (hk : k ≤ 8) :
    Calls Try.prog 13 #[.int .i64 (d : Int), .int .i64 (k : Int)] w fun e w' => e = .returned (.int .i64 (cnt d k : Int)) ∧ Below w.heap.size w w' := by
  have hmk := make_i (k + 1) (by omega)
  have hcast : ((k + 1 : Nat) : Int) = (k : Int) + 1 := by omega
  rw [hcast] at hmk
  have hB1 := Blk.new w (cs (List.replicate (k + 1) 0)) 2
  have hBi : Bi (w.alloc (.cells (cs (List.replicate (k + 1) 0)) 2)) w.heap.size (List.replicate (k + 1) 0) := hB1
  obtain ⟨b0, f0⟩ := hBi.cell 0 (by simp)
  have ecs : (cs (List.replicate (k + 1) 0)).setIfInBounds 0 (Value.int .i64 1) = cs (rwL 0 k) := by rw [← rw_zero]; exact cs_set _ 0 1
  have hS0 : Bi (w.alloc (.cells ((cs (List.replicate (k + 1) 0)).setIfInBounds 0 (Value.int .i64 1)) 2)) w.heap.size (rwL 0 k) := by
    rw [ecs]; exact Blk.new w (cs (rwL 0 k)) 2
  have hlen : (rwL 0 k).length = k + 1 := mkL_len _ _
  have HO0 := hid (hS0.ow (base := w.heap.size) (Nat.le_refl _) (by omega))
  have HB0 := hid (bmore (Below.refl w.heap.size w) (.cells ((cs (List.replicate (k + 1) 0)).setIfInBounds 0 (Value.int .i64 1)) 2))
  rw [hlen] at HO0
  have HRd := hid (fun e m (hm : m < k + 1) => @rw_get e k m hm)
  have HSm := hid cnt_small
  have HLn : Hid (∀ e, (rwL e k).length = k + 1) := fun e => mkL_len _ _
  have hkI : (k : Int) ≤ 8 := by omega
  have hdI : (d : Int) ≤ 4 := by omega
  clear hB1 hBi hS0 hlen hcast ecs
  go_enter Try.func13, Try.ntmps13
  go_wp2_with fail
  clear b0 f0 hmk
  go_loopw [5, 6] (fun r i wr => ∃ e g cap : Nat, e ≤ d ∧ i = .int .i64 (e : Int) ∧ r = .slice (some ⟨g, 0, none⟩) (k + 1) cap ∧ Hid (OwI w.heap.size wr (.slice (some ⟨g, 0, none⟩) (k + 1) cap) (rwL e k)) ∧ Hid (Below w.heap.size w wr)) (fun _ i _ => d - (intOf i).toNat)
  case atStart => exact ⟨0, _, _, Nat.zero_le _, rfl, rfl, HO0.out, HB0.out⟩
  case round =>
    obtain ⟨e, g, cap, he, rfl, rfl, hO, hB⟩ := hrel
    clear HO0 HB0
    by_cases hlt : e < d
    · have HR := hid (fun m (hm : m < k + 1) => HRd.out e m hm)
      have HLe := hid (HLn.out e)
      have HS := hid (fun m (hm : m < 9) => HSm.out e (by omega) m hm)
      have HNx : Hid (∀ m, mkL (m + 1) (cnI (e + 1)) = mkL m (cnI (e + 1)) ++ [(cnt e m : Int) + 2 * (psF (cnt e) m : Int)]) := fun m => by
        rw [mkL_succ]; congr 2
      have HPs : Hid (∀ m, (psF (cnt e) (m + 1) : Int) = (psF (cnt e) m : Int) + (cnt e m : Int)) := fun m => by
        rw [show psF (cnt e) (m + 1) = psF (cnt e) m + cnt e m from rfl]; omega
      have HEnd : Hid (mkL (k + 1) (cnI (e + 1)) = rwL (e + 1) k) := rfl
      have hgl := (hO.out.block g rfl)
      have hsz := hB.out.size
      have HK0 : Hid (RW w g cap (rwL e k) wr.heap.size 0 [] (wr.alloc (.cells #[] 2))) := by
        have hlr := HLe.out
        refine ⟨?_, ow_new .i64 2 _ wr hsz, by omega, bmore hB.out _⟩
        rw [hlr]; exact hO.out.alloc _
      have hdI2 : (e : Int) < (d : Int) := by omega
      clear hO hB HSm HRd HLn hgl
      generalize rwL e k = row at *
      generalize wr = w0 at *
      go_wp2_with fail
      go_loopw [7, 8, 9] (fun nx b j wq => ∃ m g2 c2 : Nat, m ≤ k + 1 ∧ nx = .slice (some ⟨g2, 0, none⟩) m c2 ∧ b = .int .i64 (psF (cnt e) m : Int) ∧ j = .int .i64 (m : Int) ∧ Hid (RW w g cap row g2 c2 (mkL m (cnI (e + 1))) wq)) (fun _ _ j _ => k + 1 - (intOf j).toNat)
      case atStart => exact ⟨0, _, _, Nat.zero_le _, rfl, rfl, rfl, HK0.out⟩
      case round =>
        obtain ⟨m, g2, c2, hm, rfl, rfl, rfl, hK⟩ := hrel
        clear HK0
        by_cases hlm : m < k + 1
        · have hlr := HLe.out
          obtain ⟨x1, _⟩ := hK.out.r.cellAt rfl m (by omega)
          have HRm := hid (HR.out m hlm)
          rw [HRm.out] at x1
          obtain ⟨s1, s2⟩ := HS.out m (by omega)
          have hNx := hid (HNx.out m)
          have hPs := hid (HPs.out m)
          have hyl : (mkL m (cnI (e + 1))).length = m := mkL_len _ _
          have Hyl := hid hyl
          have hmI : (m : Int) ≤ (k : Int) := by omega
          have hmL : (m : Int) < ((k + 1 : Nat) : Int) := by omega
          have s1' : (cnt e m : Int) ≤ 100000 := by omega
          have s2' : (psF (cnt e) m : Int) ≤ 100000 := by omega
          have s3' : 0 ≤ (cnt e m : Int) := by omega
          have s4' : 0 ≤ (psF (cnt e) m : Int) := by omega
          have hgl2 := hK.out.r.block g rfl
          have hsz2 := hK.out.b.size
          have hne := hK.out.ne
          have HOn := hid (hK.out.n.alloc (.cells #[.int .i64 ((cnt e m : Int) + 2 * (psF (cnt e) m : Int))] 2))
          have HOr := hid (hK.out.r.alloc (.cells #[.int .i64 ((cnt e m : Int) + 2 * (psF (cnt e) m : Int))] 2))
          have HBk := hid (bmore hK.out.b (.cells #[.int .i64 ((cnt e m : Int) + 2 * (psF (cnt e) m : Int))] 2))
          rw [hyl] at HOn
          clear s1 s2 HR HS HNx HPs HEnd hK hyl
          generalize (cnt e m : Int) = cx at *
          generalize (psF (cnt e) m : Int) = px at *
          generalize mkL m (cnI (e + 1)) = ys at *
          go_wp2_with (at_builtin; refine wpList_append_ints _ rfl _ _ rfl w.heap.size _ ys rfl HOn.out _ [cx + 2 * px] rfl (sl_lit _ _ _ _ _ _ rfl rfl) (by simp) ?c1 ?c2 ?_)
          case c1 => have := Hyl.out; simp only [List.length_singleton]; omega
          case c2 => simp; omega
          intro g5 cap5 n5 w5 hn5 ho5 hg5 hat5
          have hn5' : n5 = (ys ++ [cx + 2 * px]).length := by simp only [List.length_append, List.length_singleton] at hn5 ⊢; exact hn5
          have hne5 : g5 ≠ g := by
            rcases hat5 with h | h
            · have : g2 = g5 := by simpa [Value.ownBlock] using h
              omega
            · omega
          have HK5 : Hid (RW w g cap row g5 cap5 (ys ++ [cx + 2 * px]) w5) := by
            refine ⟨Ow.keptNe HOr.out hg5 (fun j e => by simp [Value.ownBlock] at e ⊢; omega), ?_, hne5, HBk.out.trans (below_of_grown hg5 (by simp; omega) (fun i e => (HOn.out.block i e).1))⟩
            rw [← hn5']; exact ho5
          have HN5 : Hid (n5 = m + 1) := by show _ = _; have := Hyl.out; rw [hn5']; simp only [List.length_append, List.length_singleton]; omega
          obtain ⟨x2, _⟩ := HK5.out.r.cellAt rfl m (by omega)
          clear hn5 ho5 hg5 hat5 HOn HOr HBk x1 hgl2
          rw [HRm.out] at x2
          have hN5 := HN5.out
          subst hN5
          go_wp2
          go_roundw
          case rel => exact ⟨m + 1, g5, cap5, by omega, rfl, by rw [hPs.out], by go_num, by rw [hNx.out]; exact HK5.out⟩
          case measure => simp [intOf]; omega
        · obtain rfl : m = k + 1 := by omega
          have hE := HEnd.out
          have hK2 := hid hK.out.n
          have hB2 := hid hK.out.b
          have Hyl : Hid ((mkL (k + 1) (cnI (e + 1))).length = k + 1) := mkL_len _ _
          rw [Hyl.out, hE] at hK2
          clear HR HS HNx HPs HEnd hK hE
          go_wp2
          go_roundw
          case rel => exact ⟨e + 1, g2, c2, by omega, by go_num, rfl, hK2.out, hB2.out⟩
          case measure => simp [intOf]; omega
    · obtain rfl : e = d := by omega
      obtain ⟨x1, _⟩ := hO.out.cellAt (HLn.out e).symm k (by rw [HLn.out]; omega)
      rw [HRd.out e k (by omega)] at x1
      have hB2 := hid hB.out
      clear hO hB HSm HRd HLn
      go_wp2
      go_ret
      exact ⟨rfl, hB2.out⟩
end Go.Proofs.Ytlmjollglbbegaa.PulS
