/- The program's spreads behind an interface, and deals: times, both numbers, the middle, turned sides. Conditions: numbers within bounds, a right spread's type. -/
import Derived.Test.YtlbklghegonfeaaPaiC
import Derived.Laws.StructEq
import Derived.Deep.RegionHeld3
import Derived.Deep.CutBlock
import Derived.Deep.DeepCutAuto
namespace Go.Proofs.Ytlbklghegonfeaa.PaiH
open Go.ChangeShapes Go.WideShapes Go.ChangeAt Go.RowKit Go.Proofs.Ytlbklghegonfeaa.Num Go.Proofs.Ytlbklghegonfeaa.Div Go.Proofs.Ytlbklghegonfeaa.Sli Go.Proofs.Ytlbklghegonfeaa.App Go.Proofs.Ytlbklghegonfeaa.Blk Go.Proofs.Ytlbklghegonfeaa.IntL Go.Proofs.Ytlbklghegonfeaa.IntA Go.Proofs.Ytlbklghegonfeaa.Par Go.Proofs.Ytlbklghegonfeaa.HalM Go.Proofs.Ytlbklghegonfeaa.PaiM Go.Proofs.Ytlbklghegonfeaa.PaiC

/-- T is the dynamic type of the spread k. -/
def SP (T : TypeId) (k : Int) : Prop := (T = 64 ∧ k = 0) ∨ (T = 65 ∧ k = 1) ∨ (T = 66 ∧ k = 2)
theorem sp_some {k : Int} (h : spB k = true) : ∃ T, SP T k := by
  rcases sp_cases h with rfl | rfl | rfl
  · exact ⟨_, Or.inl ⟨rfl, rfl⟩⟩
  · exact ⟨_, Or.inr (Or.inl ⟨rfl, rfl⟩)⟩
  · exact ⟨_, Or.inr (Or.inr ⟨rfl, rfl⟩)⟩
theorem sp_is {T : TypeId} {k : Int} (h : SP T k) : spB k = true := by
  rcases h with ⟨_, rfl⟩ | ⟨_, rfl⟩ | ⟨_, rfl⟩ <;> rfl
theorem sp_no {k : Int} (h : spB k = false) : (k == 0) = false ∧ (k == 1) = false ∧ (k == 2) = false := by
  have := of_notB h
  refine ⟨?_, ?_, ?_⟩ <;> simp <;> omega

theorem isIndex_calls (v : Int) (w : World) : Calls Try.prog 16 #[.int .i64 v] w fun e w' => e = .returned (.bool (ixB v)) ∧ w' = w := by
  have HI := hid (isWithin_calls v (-30000) 30000)
  go_enter Try.func16, Try.ntmps16
  go_wp2_with (go_at_call 30; refine (HI.out _).mono ?_; rintro e w' ⟨rfl, rfl⟩)
  go_ret
  exact ⟨rfl, rfl⟩
theorem isSide_calls (s : Int) (w : World) : Calls Try.prog 15 #[.int .i64 s] w fun e w' => e = .returned (.bool (inB 0 1 s)) ∧ w' = w := by
  have HI := hid (isWithin_calls s 0 1)
  go_enter Try.func15, Try.ntmps15
  go_wp2_with (go_at_call 30; refine (HI.out _).mono ?_; rintro e w' ⟨rfl, rfl⟩)
  go_ret
  exact ⟨rfl, rfl⟩
theorem dealOf_no (k : Int) (t : Bool) (w : World) (h : spB k = false) : Calls Try.prog 14 #[.int .i64 k, .bool t] w fun e w' => e = .returned (.tuple #[.agg #[.nilIface, .bool false], .bool false]) ∧ Below w.heap.size w w' := by
  obtain ⟨h0, h1, h2⟩ := sp_no h
  clear h
  go_enter Try.func14, Try.ntmps14
  go_wp2
  exact bodyPost_ret (v := .tuple #[.agg #[.nilIface, .bool false], .bool false]) (by simp [results, Try.results14, go_sem]) rfl ⟨rfl, bmore (Below.refl _ _) _⟩
theorem wtimes_calls (w : World) : Calls Try.prog 59 #[.agg #[]] w fun e w' => e = .returned (.int .i64 1) ∧ Below w.heap.size w w' := by
  go_enter Try.func59, Try.ntmps59
  go_wp2
  go_ret
  exact ⟨rfl, bmore (Below.refl _ _) _⟩
theorem htimes_calls (w : World) : Calls Try.prog 61 #[.agg #[]] w fun e w' => e = .returned (.int .i64 2) ∧ Below w.heap.size w w' := by
  go_enter Try.func61, Try.ntmps61
  go_wp2
  go_ret
  exact ⟨rfl, bmore (Below.refl _ _) _⟩
theorem ttimes_calls (w : World) : Calls Try.prog 64 #[.agg #[]] w fun e w' => e = .returned (.int .i64 3) ∧ Below w.heap.size w w' := by
  go_enter Try.func64, Try.ntmps64
  go_wp2
  go_ret
  exact ⟨rfl, bmore (Below.refl _ _) _⟩
/-- What a spread's methods are. -/
theorem middle_of (T : TypeId) (F : FuncId) (m v : Int) (t : Bool) (w : World) (hm : ∀ w, (method 196 T (.agg #[]) "loop.example/g00657/impl.times").run Try.prog w = .ok (F, .agg #[]) w)
    (hq : ∀ args w, (callFunc F args).run Try.prog w = .ok (.enter F args) w) (hF : ∀ W, Calls Try.prog F #[.agg #[]] W fun e w' => e = .returned (.int .i64 m) ∧ Below W.heap.size W w')
    (hv : -1000000 ≤ m * v ∧ m * v ≤ 1000000) : Calls Try.prog 26 #[.agg #[.iface T (.agg #[]), .bool t], .int .i64 v] w fun e w' => e = .returned (.int .i64 (m * v)) ∧ Below w.heap.size w w' := by
  have HF := hid hF
  have HB := hid (bmore (Below.refl _ w) (.cells #[.iface T (.agg #[]), .bool t] 41))
  have e1 : wrap64 (m * v) = m * v := wrap_of (by omega) (by omega)
  clear hF
  go_enter Try.func26, Try.ntmps26
  go_wp2_with fail
  refine (HF.out _).mono ?_
  rintro e w1 ⟨rfl, hb⟩
  have HL := hid (bthen HB.out hb)
  clear hb HF HB
  go_wp2
  go_ret
  exact ⟨rfl, HL.out⟩
theorem middle_calls (T : TypeId) (k v : Int) (t : Bool) (w : World) (h : SP T k) (hv : -100000 ≤ v ∧ v ≤ 100000) : Calls Try.prog 26 #[.agg #[.iface T (.agg #[]), .bool t], .int .i64 v] w fun e w' => e = .returned (.int .i64 ((k + 1) * v)) ∧ Below w.heap.size w w' := by
  rcases h with ⟨rfl, rfl⟩ | ⟨rfl, rfl⟩ | ⟨rfl, rfl⟩
  · exact middle_of _ 59 (0 + 1) v t w (fun _ => by kernel_rfl) Try.call59 wtimes_calls (by omega)
  · exact middle_of _ 61 (1 + 1) v t w (fun _ => by kernel_rfl) Try.call61 htimes_calls (by omega)
  · exact middle_of _ 64 (2 + 1) v t w (fun _ => by kernel_rfl) Try.call64 ttimes_calls (by omega)
theorem sides_calls (S : Value) (t : Bool) (a b : Int) (w : World) : Calls Try.prog 34 #[.agg #[S, .bool t], .agg #[.int .i64 a, .int .i64 b]] w fun e w' => e = .returned (.agg #[.int .i64 (if t = true then b else a), .int .i64 (if t = true then a else b)]) ∧ Below w.heap.size w w' := by
  cases t
  · go_enter Try.func34, Try.ntmps34
    go_wp2
    exact bodyPost_ret (v := .agg #[.int .i64 a, .int .i64 b]) (by simp [results, Try.results34, go_sem]) rfl ⟨rfl, bmore (bmore (bmore (Below.refl _ _) _) _) _⟩
  · go_enter Try.func34, Try.ntmps34
    go_wp2
    exact bodyPost_ret (v := .agg #[.int .i64 b, .int .i64 a]) (by simp [results, Try.results34, go_sem]) rfl ⟨rfl, bmore (bmore (bmore (Below.refl _ _) _) _) _⟩
theorem wnum_calls (q : Int) (w : World) : Calls Try.prog 58 #[.agg #[], .int .i64 q] w fun e w' => e = .returned (.agg #[.int .i64 (paA q 0), .int .i64 (paB q 0)]) ∧ Below w.heap.size w w' := by
  go_enter Try.func58, Try.ntmps58
  go_wp2
  exact bodyPost_ret (v := .agg #[.int .i64 q, .int .i64 q]) (by simp [results, Try.results58, go_sem]) rfl ⟨rfl, bmore (bmore (Below.refl _ _) _) _⟩
theorem hnum_calls (q : Int) (w : World) (hq : -1000000 ≤ q ∧ q ≤ 1000000) : Calls Try.prog 60 #[.agg #[], .int .i64 q] w fun e w' => e = .returned (.agg #[.int .i64 (paA q 1), .int .i64 (paB q 1)]) ∧ Below w.heap.size w w' := by
  have HF := hid floor_calls
  go_enter Try.func60, Try.ntmps60
  go_wp2_with (go_at_call 62; refine (HF.out _ _ _ (by omega) (by omega) (by omega)).mono ?_; rintro e w' ⟨rfl, rfl⟩)
  exact bodyPost_ret (v := .agg #[.int .i64 ((q + 1) / 2), .int .i64 (q / 2)]) (by simp [results, Try.results60, go_sem]) rfl ⟨rfl, bmore (bmore (Below.refl _ _) _) _⟩
theorem tnum_calls (q : Int) (w : World) (hq : -1000000 ≤ q ∧ q ≤ 1000000) : Calls Try.prog 63 #[.agg #[], .int .i64 q] w fun e w' => e = .returned (.agg #[.int .i64 (paA q 2), .int .i64 (paB q 2)]) ∧ Below w.heap.size w w' := by
  have HF := hid (fun W => floor_calls q 3 W (by omega) (by omega) (by omega))
  obtain ⟨u, hu⟩ := pA2 q
  have hd : q / 3 = u := by omega
  rw [hd] at HF
  rcases hu with ⟨hx, ea, eb⟩ | ⟨hx, ea, eb⟩ | ⟨hx, ea, eb⟩
  · rw [ea, eb]
    have hub : -400000 ≤ u ∧ u ≤ 400000 := by omega
    clear ea eb hd
    subst hx
    have b1 : ((3 * u - 3 * u) == 1) = false := by simp
    have b2 : ((3 * u - 3 * u) == 2) = false := by simp
    go_enter Try.func63, Try.ntmps63
    go_wp2_with (go_at_call 62; refine (HF.out _).mono ?_; rintro e w' ⟨rfl, rfl⟩)
    exact bodyPost_ret (v := .agg #[.int .i64 u, .int .i64 u]) (by simp [results, Try.results63, go_sem]) rfl ⟨rfl, bmore (bmore (Below.refl _ _) _) _⟩
  · rw [ea, eb]
    have hub : -400000 ≤ u ∧ u ≤ 400000 := by omega
    clear ea eb hd
    subst hx
    have b1 : ((3 * u + 1 - 3 * u) == 1) = true := by simp; omega
    go_enter Try.func63, Try.ntmps63
    go_wp2_with (go_at_call 62; refine (HF.out _).mono ?_; rintro e w' ⟨rfl, rfl⟩)
    exact bodyPost_ret (v := .agg #[.int .i64 u, .int .i64 (u + 1)]) (by simp [results, Try.results63, go_sem]) rfl ⟨rfl, bmore (bmore (Below.refl _ _) _) _⟩
  · rw [ea, eb]
    have hub : -400000 ≤ u ∧ u ≤ 400000 := by omega
    clear ea eb hd
    subst hx
    have b1 : ((3 * u + 2 - 3 * u) == 1) = false := by simp; omega
    have b2 : ((3 * u + 2 - 3 * u) == 2) = true := by simp; omega
    go_enter Try.func63, Try.ntmps63
    go_wp2_with (go_at_call 62; refine (HF.out _).mono ?_; rintro e w' ⟨rfl, rfl⟩)
    exact bodyPost_ret (v := .agg #[.int .i64 (u + 1), .int .i64 u]) (by simp [results, Try.results63, go_sem]) rfl ⟨rfl, bmore (bmore (Below.refl _ _) _) _⟩
theorem pa_fg (q k : Int) (t : Bool) : (if t = true then paB q k else paA q k) = paF q k t ∧ (if t = true then paA q k else paB q k) = paG q k t := ⟨rfl, rfl⟩
set_option maxHeartbeats 2000000 in
theorem numbersOf_of (T : TypeId) (F : FuncId) (k q : Int) (t : Bool) (w : World) (hm : ∀ w, (method 196 T (.agg #[]) "loop.example/g00657/impl.numbersOf").run Try.prog w = .ok (F, .agg #[]) w)
    (hq : ∀ args w, (callFunc F args).run Try.prog w = .ok (.enter F args) w) (hF : ∀ W, Calls Try.prog F #[.agg #[], .int .i64 q] W fun e w' => e = .returned (.agg #[.int .i64 (paA q k), .int .i64 (paB q k)]) ∧ Below W.heap.size W w') :
    Calls Try.prog 24 #[.agg #[.iface T (.agg #[]), .bool t], .int .i64 q] w fun e w' => e = .returned (.agg #[.int .i64 (paF q k t), .int .i64 (paG q k t)]) ∧ Below w.heap.size w w' := by
  have HF := hid hF
  obtain ⟨eF, eG⟩ := pa_fg q k t
  have HS := hid (sides_calls (.iface T (.agg #[])) t (paA q k) (paB q k))
  rw [eF, eG] at HS
  have hV := (Blk.new w #[.iface T (.agg #[]), .bool t] 41).alloc (.cells #[.int .i64 0, .int .i64 0] 51)
  have hR := Blk.new (w.alloc (.cells #[.iface T (.agg #[]), .bool t] 41)) #[.int .i64 0, .int .i64 0] 51
  rw [World.size_alloc] at hR
  have hL := bmore (bmore (Below.refl _ w) (.cells #[.iface T (.agg #[]), .bool t] 41)) (.cells #[.int .i64 0, .int .i64 0] 51)
  clear hF eF eG
  generalize paA q k = pa at *
  generalize paB q k = pb at *
  generalize paF q k t = pf at *
  generalize paG q k t = pg at *
  go_enter Try.func24, Try.ntmps24
  go_upto_region 1 with fail
  generalize (w.alloc (.cells #[.iface T (.agg #[]), .bool t] 41)).alloc (.cells #[.int .i64 0, .int .i64 0] 51) = wr at *
  refine wp_region_noPanic ?_
  refine wp_region_held_drew (S := fun W => W.cell? ⟨w.heap.size, 0, none⟩ = some (.iface T (.agg #[])) ∧ W.cell? ⟨w.heap.size, 1, none⟩ = some (.bool t)) (by kernel_rfl) (by first | exact ⟨hV4.cell 0, hV4.cell 1⟩ | exact ⟨hV3.cell 0, hV3.cell 1⟩ | exact ⟨hV2.cell 0, hV2.cell 1⟩ | exact ⟨hV.cell 0, hV.cell 1⟩) (fun hHeld => ?_)
  (refine wpAnyH_take (i := 0) (v := ?_) rfl (by kernel_rfl) (by kernel_rfl) (by kernel_rfl) (fun _ _ _ h => h) (Or.inl ⟨by rfl, ?_⟩) hHeld ?_; rotate_left; (intro w hSw; (obtain ⟨s0, s1⟩ := hSw); (go_simp <;> with_reducible rfl)); simp only [List.getElem_toArray, List.getElem_cons_zero, Act.put, List.setIfInBounds_toArray, List.set_cons_zero, List.set_cons_succ])
  (refine wpAnyH_take (i := 1) (v := ?_) rfl (by kernel_rfl) (by kernel_rfl) (by kernel_rfl) (fun _ _ _ h => h) (Or.inl ⟨by rfl, ?_⟩) hHeld ?_; rotate_left; (intro w hSw; (obtain ⟨s0, s1⟩ := hSw); (go_simp <;> with_reducible rfl)); simp only [List.getElem_toArray, List.getElem_cons_zero, List.getElem_cons_succ, Act.put, List.setIfInBounds_toArray, List.set_cons_zero, List.set_cons_succ])
  (refine wpAnyH_take (i := 2) (v := ?_) rfl (by kernel_rfl) (by kernel_rfl) (by kernel_rfl) (fun _ _ _ h => h) (Or.inl ⟨by rfl, ?_⟩) hHeld ?_; rotate_left; (intro w hSw; (obtain ⟨s0, s1⟩ := hSw); (go_simp <;> with_reducible rfl)); simp only [List.getElem_toArray, List.getElem_cons_zero, List.getElem_cons_succ, Act.put, List.setIfInBounds_toArray, List.set_cons_zero, List.set_cons_succ])
  (refine wpAnyH_take (i := 3) (v := ?_) rfl (by kernel_rfl) (by kernel_rfl) (by kernel_rfl) (fun _ _ _ h => h) (Or.inl ⟨by rfl, ?_⟩) hHeld ?_; rotate_left; (intro w hSw; (obtain ⟨s0, s1⟩ := hSw); (go_simp <;> with_reducible rfl)); simp only [List.getElem_toArray, List.getElem_cons_zero, List.getElem_cons_succ, Act.put, List.setIfInBounds_toArray, List.set_cons_zero, List.set_cons_succ])
  refine wpAnyH_ready (rs := [4]) (by kernel_rfl) (by simp) ?_
  refine (AllReadyH.cons rfl (fun K hK => ?_) AllReadyH.nil)
  go_simp
  (refine (HF.out _).mono ?_; rintro e W2 ⟨rfl, hb2⟩; have hV2 := (show Blk wr.drew _ _ _ from hV).later hb2; have hR2 := (show Blk wr.drew _ _ _ from hR).later hb2; have hL2 := bthen hL.drew hb2; clear hV hR hL)
  refine hK.out _ _ (by first | exact ⟨hV4.cell 0, hV4.cell 1⟩ | exact ⟨hV3.cell 0, hV3.cell 1⟩ | exact ⟨hV2.cell 0, hV2.cell 1⟩ | exact ⟨hV.cell 0, hV.cell 1⟩) (fun hHeld => ?_)
  clear hK K
  try dsimp only
  refine wpAnyH_ready (rs := [5]) (by kernel_rfl) (by simp) ?_
  refine (AllReadyH.cons rfl (fun K hK => ?_) AllReadyH.nil)
  go_simp
  (refine (HS.out _).mono ?_; rintro e W3 ⟨rfl, hb3⟩; have hV3 := hV2.later hb3; have hR3 := hR2.later hb3; have hL3 := bthen hL2 hb3; obtain ⟨r0, r1, q0, q1⟩ := hR3.two; have hlt := hR3.lt; clear hV2 hR2 hL2)
  refine hK.out _ _ (by first | exact ⟨hV4.cell 0, hV4.cell 1⟩ | exact ⟨hV3.cell 0, hV3.cell 1⟩ | exact ⟨hV2.cell 0, hV2.cell 1⟩ | exact ⟨hV.cell 0, hV.cell 1⟩) (fun hHeld => ?_)
  clear hK K
  try dsimp only
  refine wpAnyH_ready (rs := [6]) (by kernel_rfl) (by simp) ?_
  refine (AllReadyH.cons rfl (fun K hK => ?_) AllReadyH.nil)
  go_simp
  (have hV4 := (hV3.other (b' := w.heap.size + 1) (by omega) 0 (.int .i64 pf)).other (b' := w.heap.size + 1) (by omega) 1 (.int .i64 pg); clear hV3)
  refine hK.out _ _ (by first | exact ⟨hV4.cell 0, hV4.cell 1⟩ | exact ⟨hV3.cell 0, hV3.cell 1⟩ | exact ⟨hV2.cell 0, hV2.cell 1⟩ | exact ⟨hV.cell 0, hV.cell 1⟩) (fun hHeld => ?_)
  clear hK K
  try simp only [List.getElem_toArray, List.getElem_cons_zero, List.getElem_cons_succ, Act.put, List.setIfInBounds_toArray, List.set_cons_zero, List.set_cons_succ]
  refine wpAnyH_done (by kernel_rfl) ?_ _
  refine NoPanic.normal ?_
  go_wp2
  exact bodyPost_ret (v := .agg #[.int .i64 pf, .int .i64 pg]) (by simp [results, Try.results24, go_sem, r0, r1]) rfl ⟨rfl, below_cell (below_cell hL3 (by omega) _ _) (by omega) _ _⟩
theorem numbersOf_calls (T : TypeId) (k q : Int) (t : Bool) (w : World) (h : SP T k) (hq : -1000000 ≤ q ∧ q ≤ 1000000) : Calls Try.prog 24 #[.agg #[.iface T (.agg #[]), .bool t], .int .i64 q] w fun e w' => e = .returned (.agg #[.int .i64 (paF q k t), .int .i64 (paG q k t)]) ∧ Below w.heap.size w w' := by
  rcases h with ⟨rfl, rfl⟩ | ⟨rfl, rfl⟩ | ⟨rfl, rfl⟩
  · exact numbersOf_of _ 58 0 q t w (fun _ => by kernel_rfl) Try.call58 (wnum_calls q)
  · exact numbersOf_of _ 60 1 q t w (fun _ => by kernel_rfl) Try.call60 (fun W => hnum_calls q W hq)
  · exact numbersOf_of _ 63 2 q t w (fun _ => by kernel_rfl) Try.call63 (fun W => tnum_calls q W hq)
theorem dealOf_yes (T : TypeId) (k : Int) (t : Bool) (w : World) (h : SP T k) : Calls Try.prog 14 #[.int .i64 k, .bool t] w fun e w' => e = .returned (.tuple #[.agg #[.iface T (.agg #[]), .bool t], .bool true]) ∧ Below w.heap.size w w' := by
  rcases h with ⟨rfl, rfl⟩ | ⟨rfl, rfl⟩ | ⟨rfl, rfl⟩
  · go_enter Try.func14, Try.ntmps14
    go_wp2
    exact bodyPost_ret (v := .tuple #[.agg #[.iface 64 (.agg #[]), .bool t], .bool true]) (by simp [results, Try.results14, go_sem]) rfl ⟨rfl, bmore (Below.refl _ _) _⟩
  · go_enter Try.func14, Try.ntmps14
    go_wp2
    exact bodyPost_ret (v := .tuple #[.agg #[.iface 65 (.agg #[]), .bool t], .bool true]) (by simp [results, Try.results14, go_sem]) rfl ⟨rfl, bmore (Below.refl _ _) _⟩
  · go_enter Try.func14, Try.ntmps14
    go_wp2
    exact bodyPost_ret (v := .tuple #[.agg #[.iface 66 (.agg #[]), .bool t], .bool true]) (by simp [results, Try.results14, go_sem]) rfl ⟨rfl, bmore (Below.refl _ _) _⟩
end Go.Proofs.Ytlbklghegonfeaa.PaiH
