/- The model's finest rung. Condition: none for FinestRung; lists of at most 1048576 coefficients for l9Finest. -/
import Derived.Test.YtfmgdhpadamlkaaLadS
import Derived.Test.YtfmgdhpadamlkaaNorm
import Derived.Test.YtfmgdhpadamlkaaGa
import Derived.BigQuiet
namespace Go.Proofs.Ytfmgdhpadamlkaa.LadF
open Go.ChangeShapes Go.WideShapes Go.ChangeAt Go.RowKit Go.Proofs.Ytfmgdhpadamlkaa.Num Go.Proofs.Ytfmgdhpadamlkaa.Sli Go.Proofs.Ytfmgdhpadamlkaa.App Go.Proofs.Ytfmgdhpadamlkaa.Div Go.Proofs.Ytfmgdhpadamlkaa.Norm Go.Proofs.Ytfmgdhpadamlkaa.Blk Go.Proofs.Ytfmgdhpadamlkaa.HalM Go.Proofs.Ytfmgdhpadamlkaa.IntL Go.Proofs.Ytfmgdhpadamlkaa.IntA Go.Proofs.Ytfmgdhpadamlkaa.LadM Go.Proofs.Ytfmgdhpadamlkaa.LadS

/-- A number is small enough by a step. -/
def ok1 (m st x : Int) : Bool := decide (absV (nearV x st) ≤ m)
theorem okR_eq (l : List Int) (m : Int) (r : Nat) : okR l m r = l.all (ok1 m (stN r : Int)) := rfl
theorem all_next {f : Int → Bool} {xs : List Int} {k : Nat} (h : k < xs.length) : (xs.take (k + 1)).all f = ((xs.take k).all f && f (xs.getD k 0)) := by
  rw [List.take_succ_eq_append_getElem h, List.all_append]
  simp [List.getD_eq_getElem?_getD, List.getElem?_eq_getElem h]
theorem co_get {xs : List Int} (h : xs.all coB = true) {k : Nat} (hk : k < xs.length) : -16777216 ≤ xs.getD k 0 ∧ xs.getD k 0 ≤ 16777216 := by
  rw [List.all_eq_true] at h
  have := h (xs.getD k 0) (by rw [List.getD_eq_getElem?_getD, List.getElem?_eq_getElem hk]; exact List.getElem_mem hk)
  exact of_inB this
theorem abs_small {x s : Int} (hs : 1 ≤ s) (hx : -16777216 ≤ x ∧ x ≤ 16777216) : 0 ≤ absV (nearV x s) ∧ absV (nearV x s) ≤ 16777216 := by
  have := near_small hs hx
  unfold absV; split <;> omega
set_option maxRecDepth 100000 in
set_option maxHeartbeats 4000000 in
theorem l9Finest_calls (v : Value) (xs : List Int) (m : Int) (w : World) (h : Sl .i64 w v xs) (hlen : xs.length ≤ 1048576) (hco : xs.all coB = true) :
    Calls Try.prog 20 #[v, .int .i64 m] w fun e w' => e = .returned (.int .i64 (fiV xs m)) ∧ Below w.heap.size w w' := by
  have Hs := hid h
  obtain ⟨a, cap, rfl, _⟩ := h
  have HY : Hid (∀ r : Nat, r < 48 → (∀ j, j < r → okR xs m j = false) → okR xs m r = true → fiV xs m = (r : Int)) := fun r hr h1 h2 => fi_some 48 0 (Nat.zero_le _) (by omega) (fun j _ hj => h1 j hj) h2
  have HN : Hid ((∀ j, j < 48 → okR xs m j = false) → fiV xs m = -1) := fun h1 => fi_none 48 0 (fun j _ hj => h1 j (by omega))
  have HC := hid (fun k => co_get (k := k) hco)
  clear hco
  generalize fiV xs m = fv at *
  go_enter Try.func20, Try.ntmps20
  go_wp2_with fail
  go_loopw [5] (fun i wr => ∃ r : Nat, i = .int .i64 (r : Int) ∧ r ≤ 48 ∧ Hid (∀ j, j < r → okR xs m j = false) ∧ Hid (Below w.heap.size w wr)) (fun i _ => 48 - (intOf i).toNat)
  case atStart => exact ⟨0, rfl, Nat.zero_le _, fun j hj => by omega, Below.refl _ _⟩
  case round =>
    obtain ⟨r, rfl, hr, hno, HB⟩ := hrel
    by_cases hlt : r < 48
    · have HS := hid (fun W => l9Step_calls r W hlt)
      have hst := (st_all r hlt).1
      have hst2 := (st_all r hlt).2.1
      have HE := hid (okR_eq xs m r)
      have HYr := hid (HY.out r hlt hno.out)
      have HNr : Hid (okR xs m r = false → ∀ j, j < r + 1 → okR xs m j = false) := by
        intro hx j hj
        by_cases q : j = r
        · rw [q]; exact hx
        · exact hno.out j (by omega)
      have hrI : (r : Int) ≤ 47 := by omega
      have hsI : 1 ≤ (stN r : Int) := by omega
      have hsJ : (stN r : Int) ≤ 16777216 := by omega
      clear hno HY HN hst hst2
      generalize (stN r : Int) = st at *
      generalize okR xs m r = ob at *
      generalize wr = w0 at *
      go_wp2_with fail
      go_loopw [6, 7] (fun o i wq => ∃ (b : Bool) (k : Nat), o = .bool b ∧ i = .int .i64 (k : Int) ∧ k ≤ xs.length ∧ Hid (b = (xs.take k).all (ok1 m st)) ∧ Hid (Below w.heap.size w wq)) (fun _ i _ => xs.length - (intOf i).toNat)
      case atStart => exact ⟨true, 0, rfl, rfl, Nat.zero_le _, rfl, HB.out⟩
      case round =>
        obtain ⟨b, k, rfl, rfl, hk, hb, HB2⟩ := hrel
        by_cases hkn : k < xs.length
        · have hne : xs ≠ [] := by intro e; rw [e] at hkn; simp at hkn
          obtain ⟨a', cap', hv, hc⟩ := (Hs.out.later HB2.out)
          cases hv
          obtain ⟨b', off, rfl, hbl, hcell⟩ := hc hne
          have hce := hcell k hkn
          have hx := HC.out k hkn
          have HX := hid (all_next (f := ok1 m st) hkn)
          have HD := fun n => hid (below_drewN HB2.out n)
          have hkI : (k : Int) < (xs.length : Int) := by omega
          clear hc hcell hne HC HE HYr HNr
          generalize hxe : xs.getD k 0 = x at *
          clear hxe
          have HR := hid (fun W => l1Round_calls x st W (by omega) (by omega) (by omega) (by omega))
          have hd := abs_small (s := st) (by omega) hx
          have hnb := near_small (s := st) (by omega) hx
          have HA := hid (fun W => l1Abs_calls (nearV x st) W (by omega) (by omega))
          by_cases hz : absV (nearV x st) ≤ m
          · have HR2 : Hid (b = (xs.take (k + 1)).all (ok1 m st)) := by
              show _ = _
              rw [HX.out, ← hb.out, show ok1 m st x = true from decide_eq_true hz, Bool.and_true]
            have hz' : ¬ m < absV (nearV x st) := by omega
            clear HX hb hz
            generalize absV (nearV x st) = d at *
            generalize nearV x st = nv at *
            go_wp2_with fail
            go_quiet ((first | (go_at_call 27; exact Calls.quiet_of_same (HS.out _)) | (go_at_call 26; exact Calls.quiet_of_same (HR.out _)) | (go_at_call 25; exact Calls.quiet_of_same (HA.out _))))
            go_wp2
            go_roundw
            case rel => exact ⟨b, k + 1, rfl, by go_num, by omega, HR2.out, (HD _).out⟩
            case measure => simp [intOf]; omega
          · have HR2 : Hid (false = (xs.take (k + 1)).all (ok1 m st)) := by
              show _ = _
              rw [HX.out, show ok1 m st x = false from decide_eq_false hz, Bool.and_false]
            have hz' : m < absV (nearV x st) := by omega
            clear HX hb hz
            generalize absV (nearV x st) = d at *
            generalize nearV x st = nv at *
            go_wp2_with fail
            go_quiet ((first | (go_at_call 27; exact Calls.quiet_of_same (HS.out _)) | (go_at_call 26; exact Calls.quiet_of_same (HR.out _)) | (go_at_call 25; exact Calls.quiet_of_same (HA.out _))))
            go_wp2
            go_roundw
            case rel => exact ⟨false, k + 1, rfl, by go_num, by omega, HR2.out, (HD _).out⟩
            case measure => simp [intOf]; omega
        · obtain rfl : k = xs.length := by omega
          have hbo : Hid (b = ob) := by show _ = _; rw [hb.out, HE.out, List.take_length]
          clear hb HE HC
          cases b
          · have H1 := hid (HNr.out hbo.out.symm)
            clear HNr HYr hbo
            go_wp2
            go_roundw
            case rel => exact ⟨r + 1, by go_num, by omega, H1.out, HB2.out⟩
            case measure => simp [intOf]; omega
          · have H1 := hid (HYr.out hbo.out.symm)
            clear HNr HYr hbo
            go_wp2
            go_ret
            exact ⟨by rw [H1.out]; rfl, HB2.out⟩
    · obtain rfl : r = 48 := by omega
      have H1 := hid (HN.out hno.out)
      clear hno HN HY HC
      go_wp2
      go_ret
      exact ⟨by rw [H1.out]; rfl, HB.out⟩
theorem frg_many {l : List Int} {m : Int} (h : ¬ l.length ≤ 64) : 2 = frgC l m ∧ 0 = frgV l m := by
  have e : frgC l m = 2 := if_neg h
  exact ⟨e.symm, by unfold frgV; rw [if_neg (by rw [e]; decide)]⟩
theorem frg_out {l : List Int} {m : Int} (h : l.length ≤ 64) (h2 : (l.all coB && moB m) = false) : 3 = frgC l m ∧ 0 = frgV l m := by
  have e : frgC l m = 3 := by unfold frgC; rw [if_pos h, if_neg (by rw [h2]; decide)]
  exact ⟨e.symm, by unfold frgV; rw [if_neg (by rw [e]; decide)]⟩
theorem frg_none {l : List Int} {m : Int} (h : l.length ≤ 64) (h2 : (l.all coB && moB m) = true) (h3 : fiV l m < 0) : 4 = frgC l m ∧ 0 = frgV l m := by
  have e : frgC l m = 4 := by unfold frgC; rw [if_pos h, if_pos h2, if_pos h3]
  exact ⟨e.symm, by unfold frgV; rw [if_neg (by rw [e]; decide)]⟩
theorem frg_yes {l : List Int} {m : Int} (h : l.length ≤ 64) (h2 : (l.all coB && moB m) = true) (h3 : ¬ fiV l m < 0) : 0 = frgC l m ∧ fiV l m = frgV l m := by
  have e : frgC l m = 0 := by unfold frgC; rw [if_pos h, if_pos h2, if_neg h3]
  exact ⟨e.symm, by unfold frgV; rw [if_pos e]⟩
set_option maxRecDepth 100000 in
set_option maxHeartbeats 2000000 in
theorem specFinestRung_calls (v : Value) (xs : List Int) (m : Int) (w : World) (h : Sl .i64 w v xs) :
    Calls Try.prog 7 #[v, .int .i64 m] w fun e w' => e = .returned (.agg #[.int .i64 (frgC xs m), .int .i64 (frgV xs m)]) ∧ Below w.heap.size w w' := by
  have Hs := hid h
  obtain ⟨a, cap, rfl, _⟩ := h
  by_cases hn : xs.length ≤ 64
  · have HA : Hid (∀ W, Sl .i64 W (.slice a xs.length cap) xs → Calls Try.prog 18 #[.slice a xs.length cap, .int .i64 (-16777216), .int .i64 16777216] W fun e w' => e = .returned (.bool (xs.all coB)) ∧ w' = W) := fun W hW => all_calls _ xs _ _ W hW (by omega)
    have HM : Hid (∀ W, Calls Try.prog 19 #[.int .i64 m, .int .i64 0, .int .i64 65535] W fun e w' => e = .returned (.bool (moB m)) ∧ w' = W) := fun W => l1In_calls m 0 65535 W
    have hnI : (xs.length : Int) ≤ 64 := by omega
    have HSl := hid (fun o => Hs.out.later ((Below.refl w.heap.size w).alloc (Nat.le_refl _) o))
    cases ha : xs.all coB
    · have H := hid (frg_out (m := m) hn (by rw [ha]; rfl))
      rw [ha] at HA
      clear HM ha
      go_enter Try.func7, Try.ntmps7
      go_wp2_with (go_at_call 18; refine (HA.out _ (HSl.out _)).mono ?_; rintro e w' ⟨rfl, rfl⟩)
      exact bodyPost_ret (v := .agg #[.int .i64 3, .int .i64 0]) (by simp [results, Try.results7, go_sem]) rfl ⟨ret_two H.out.1 H.out.2, (Below.refl _ _).alloc (Nat.le_refl _) _⟩
    · cases hm : moB m
      · have H := hid (frg_out (m := m) hn (by rw [ha, hm]; rfl))
        rw [ha] at HA
        rw [hm] at HM
        clear ha hm
        go_enter Try.func7, Try.ntmps7
        go_wp2_with (first | (go_at_call 18; refine (HA.out _ (HSl.out _)).mono ?_; rintro e w' ⟨rfl, rfl⟩) | (go_at_call 19; refine (HM.out _).mono ?_; rintro e w' ⟨rfl, rfl⟩))
        exact bodyPost_ret (v := .agg #[.int .i64 3, .int .i64 0]) (by simp [results, Try.results7, go_sem]) rfl ⟨ret_two H.out.1 H.out.2, (Below.refl _ _).alloc (Nat.le_refl _) _⟩
      · have HF := hid (fun o => l9Finest_calls _ xs m _ (HSl.out o) (by omega) ha)
        have hb0 := bmore (Below.refl w.heap.size w)
        by_cases hf : fiV xs m < 0
        · have H := hid (frg_none hn (by rw [ha, hm]; rfl) hf)
          rw [ha] at HA
          rw [hm] at HM
          clear ha hm
          generalize fiV xs m = fv at *
          generalize frgC xs m = fc at *
          generalize frgV xs m = fw at *
          go_enter Try.func7, Try.ntmps7
          go_wp2_with (first | (go_at_call 18; refine (HA.out _ (HSl.out _)).mono ?_; rintro e w' ⟨rfl, rfl⟩) | (go_at_call 19; refine (HM.out _).mono ?_; rintro e w' ⟨rfl, rfl⟩) | fail)
          refine (HF.out _).mono ?_
          rintro e w2 ⟨rfl, hb⟩
          have HZ := hid ((Blk.new w #[.int .i64 0, .int .i64 0] 28).later hb)
          obtain ⟨z0, z1, f0, f1⟩ := HZ.out.two
          have HB := hid (below_set2 (bthen (bmore (Below.refl w.heap.size w) _) hb) (.int .i64 4) (.int .i64 0))
          have HZ2 := hid ((HZ.out.set 0 (.int .i64 4)).set 1 (.int .i64 0))
          clear hb HF
          go_wp2
          obtain ⟨y0, y1, _⟩ := HZ2.out.two
          exact bodyPost_ret (v := .agg #[.int .i64 4, .int .i64 0]) (by simp [results, Try.results7, go_sem, y0, y1]) rfl ⟨ret_two H.out.1 H.out.2, HB.out⟩
        · have H := hid (frg_yes hn (by rw [ha, hm]; rfl) hf)
          rw [ha] at HA
          rw [hm] at HM
          clear ha hm
          generalize fiV xs m = fv at *
          generalize frgC xs m = fc at *
          generalize frgV xs m = fw at *
          go_enter Try.func7, Try.ntmps7
          go_wp2_with (first | (go_at_call 18; refine (HA.out _ (HSl.out _)).mono ?_; rintro e w' ⟨rfl, rfl⟩) | (go_at_call 19; refine (HM.out _).mono ?_; rintro e w' ⟨rfl, rfl⟩) | fail)
          refine (HF.out _).mono ?_
          rintro e w2 ⟨rfl, hb⟩
          have HZ := hid ((Blk.new w #[.int .i64 0, .int .i64 0] 28).later hb)
          obtain ⟨z0, z1, f0, f1⟩ := HZ.out.two
          have HB := hid (below_set2 (bthen (bmore (Below.refl w.heap.size w) _) hb) (.int .i64 0) (.int .i64 fv))
          have HZ2 := hid ((HZ.out.set 0 (.int .i64 0)).set 1 (.int .i64 fv))
          clear hb HF
          go_wp2
          obtain ⟨y0, y1, _⟩ := HZ2.out.two
          exact bodyPost_ret (v := .agg #[.int .i64 0, .int .i64 fv]) (by simp [results, Try.results7, go_sem, y0, y1]) rfl ⟨ret_two H.out.1 H.out.2, HB.out⟩
  · have H := hid (frg_many (m := m) hn)
    have hn' : (64 : Int) < xs.length := by omega
    go_enter Try.func7, Try.ntmps7
    go_wp2
    exact bodyPost_ret (v := .agg #[.int .i64 2, .int .i64 0]) (by simp [results, Try.results7, go_sem]) rfl ⟨ret_two H.out.1 H.out.2, (Below.refl _ _).alloc (Nat.le_refl _) _⟩
end Go.Proofs.Ytfmgdhpadamlkaa.LadF
