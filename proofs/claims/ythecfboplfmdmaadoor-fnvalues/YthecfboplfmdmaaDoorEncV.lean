/- EncodeValues: the program's and the model's. -/
import Derived.Test.YthecfboplfmdmaaDoorValS
import Derived.Test.YthecfboplfmdmaaDoorValM
import Derived.Test.YthecfboplfmdmaaDoorEncS
namespace Go.Proofs.YthecfboplfmdmaaDoor.EncV
open Go.ChangeShapes Go.WideShapes Go.ChangeAt Go.RowKit Go.Proofs.YthecfboplfmdmaaDoor.Num Go.Proofs.YthecfboplfmdmaaDoor.Sli Go.Proofs.YthecfboplfmdmaaDoor.App Go.Proofs.YthecfboplfmdmaaDoor.Byt Go.Proofs.YthecfboplfmdmaaDoor.Div Go.Proofs.YthecfboplfmdmaaDoor.Dec Go.Proofs.YthecfboplfmdmaaDoor.Blk Go.Proofs.YthecfboplfmdmaaDoor.RangeM Go.Proofs.YthecfboplfmdmaaDoor.SlS Go.Proofs.YthecfboplfmdmaaDoor.Enc Go.Proofs.YthecfboplfmdmaaDoor.EncS Go.Proofs.YthecfboplfmdmaaDoor.ExL Go.Proofs.YthecfboplfmdmaaDoor.SlA Go.Proofs.YthecfboplfmdmaaDoor.ValZ Go.Proofs.YthecfboplfmdmaaDoor.ValI Go.Proofs.YthecfboplfmdmaaDoor.ValJ Go.Proofs.YthecfboplfmdmaaDoor.ValK Go.Proofs.YthecfboplfmdmaaDoor.ValS Go.Proofs.YthecfboplfmdmaaDoor.ValM

/-- All of them are values. -/
def allB (vs : List Int) : Bool := vs.all (inB (-65535) 65535)
theorem allB_iff (vs : List Int) : allB vs = true ↔ allV vs := by
  unfold allB allV isV
  rw [List.all_eq_true]
  exact ⟨fun h v hv => of_inB (h v hv), fun h v hv => inB_yes (h v hv).1 (h v hv).2⟩
/-- The answer of EncodeValues. -/
def vC (vs : List Int) : Int := if 64 < vs.length then 2 else if allB vs = true then 0 else 3
def vL (vs : List Int) : List Int := if vC vs = 0 then vB vs else []
theorem v_many {vs : List Int} (h : 64 < vs.length) : vC vs = 2 ∧ vL vs = [] := by
  have : vC vs = 2 := if_pos h
  exact ⟨this, by unfold vL; rw [this]; rfl⟩
theorem v_bad {vs : List Int} (h : ¬ 64 < vs.length) (h2 : allB vs = false) : vC vs = 3 ∧ vL vs = [] := by
  have : vC vs = 3 := by unfold vC; rw [if_neg h, if_neg (by rw [h2]; decide)]
  exact ⟨this, by unfold vL; rw [this]; rfl⟩
theorem v_ok {vs : List Int} (h : ¬ 64 < vs.length) (h2 : allB vs = true) : vC vs = 0 ∧ vL vs = vB vs := by
  have : vC vs = 0 := by unfold vC; rw [if_neg h, if_pos h2]
  exact ⟨this, by unfold vL; rw [this]; rfl⟩
theorem vL_small (vs : List Int) : (vL vs).length ≤ 1048576 := by
  unfold vL
  split
  · rename_i h
    have hn : ¬ 64 < vs.length := fun h1 => by rw [(v_many h1).1] at h; cases h
    have hb : allB vs = true := by
      cases hb : allB vs
      · rw [(v_bad hn hb).1] at h; cases h
      · rfl
    have := vB_len ((allB_iff vs).1 hb)
    omega
  · simp
theorem all_not {vs : List Int} {k : Nat} (hk : k < vs.length) (h : inB (-65535) 65535 (vs.getD k 0) = false) : allB vs = false := by
  cases hb : allB vs
  · rfl
  · exfalso
    unfold allB at hb
    rw [List.all_eq_true] at hb
    have := hb (vs.getD k 0) (by rw [List.getD_eq_getElem?_getD, List.getElem?_eq_getElem hk]; exact List.getElem_mem hk)
    rw [h] at this
    cases this
theorem all_of {vs : List Int} (h : ∀ j, j < vs.length → inB (-65535) 65535 (vs.getD j 0) = true) : allB vs = true := by
  unfold allB
  rw [List.all_eq_true]
  intro v hv
  obtain ⟨j, hj, rfl⟩ := List.mem_iff_getElem.1 hv
  have := h j hj
  rwa [List.getD_eq_getElem?_getD, List.getElem?_eq_getElem hj] at this
theorem vSl_take (vs : List Int) (k : Nat) (hk : k < vs.length) : vSl (vs.take (k + 1)) = vSl (vs.take k) ++ zSl (zg (vs.getD k 0)) := by
  rw [List.take_add_one, List.getElem?_eq_getElem hk, List.getD_eq_getElem?_getD, List.getElem?_eq_getElem hk, vSl_append]
  simp [vSl]
theorem vSl_few (vs : List Int) (k : Nat) (h : vs.length ≤ 64) : (vSl (vs.take k)).length ≤ 192 := by
  have := vSl_len (vs.take k)
  rw [List.length_take] at this
  omega
theorem zSl_ne (z : Nat) : zSl z ≠ [] := by unfold zSl; exact List.cons_ne_nil _ _
theorem owS_new (base : Nat) (w : World) (hb : base ≤ w.heap.size) : OwS base (w.alloc (.cells #[] 75)) (.slice (some ⟨w.heap.size, 0, none⟩) 0 0) [] :=
  ⟨rfl, .inr ⟨w.heap.size, 0, #[], rfl, hb, World.alloc_heap_new w _, Nat.le_refl _, Nat.zero_le _, rfl, rfl⟩⟩
/-- What EncodeValues has told so far. -/
structure EV (w : World) (vs : List Int) (k : Nat) (v : Value) (W : World) : Prop where
  r : Blk W w.heap.size #[.int .i64 0, .slice none 0 0] 27
  o : OwS (w.heap.size + 1) W v (vSl (vs.take k))
  l : Below w.heap.size w W
  ok : ∀ j, j < k → inB (-65535) 65535 (vs.getD j 0) = true
set_option maxRecDepth 100000 in
set_option maxHeartbeats 2000000 in
theorem implEncV_calls (v : Value) (vs : List Int) (w : World) (h : Sl .i64 w v vs) (hm : vs.length ≤ 1048576) :
    Calls Tryd.prog 8 #[v] w fun e w' => ∃ u, e = .returned (.agg #[.int .i64 (vC vs), u]) ∧ OwB w.heap.size w' u (vL vs) ∧ Below w.heap.size w w' := by
  have Hs := hid h
  obtain ⟨a, cap, rfl, _⟩ := h
  by_cases hmany : 64 < vs.length
  · obtain ⟨m1, m2⟩ := v_many hmany
    have M1 := hid m1
    have M2 := hid m2
    clear m1 m2
    have hI : (64 : Int) < (vs.length : Int) := by omega
    have HL := hid (bmore (Below.refl w.heap.size w) (.cells #[.int .i64 2, .slice none 0 0] 27))
    go_enter Tryd.func8, Tryd.ntmps8
    go_wp2
    exact bodyPost_ret (v := .agg #[.int .i64 2, .slice none 0 0]) (by simp [results, Tryd.results8, go_sem]) rfl ⟨_, by rw [M1.out], by rw [M2.out]; exact own_nil _ _ _ _, HL.out⟩
  · have hl6 : vs.length ≤ 64 := by omega
    have hI : (vs.length : Int) ≤ 64 := by omega
    have HK : Hid (EV w vs 0 (.slice none 0 0) (w.alloc (.cells #[.int .i64 0, .slice none 0 0] 27))) := ⟨Blk.new _ _ _, owS_nil _ _, bmore (Below.refl _ _) _, fun j hj => by omega⟩
    have HSl := hid implSlots_calls
    go_enter Tryd.func8, Tryd.ntmps8
    go_wp2_with fail
    go_loopw [3, 13] (fun o i wr => ∃ (k : Nat) (u : Value), u = o ∧ i = .int .i64 (k : Int) ∧ k ≤ vs.length ∧ Hid (EV w vs k u wr)) (fun _ i _ => vs.length - (intOf i).toNat)
    case atStart => exact ⟨0, _, rfl, rfl, Nat.zero_le _, HK.out⟩
    case round =>
      clear HK
      obtain ⟨k, u, hu, rfl, hk, hK⟩ := hrel
      subst hu
      have hsz0 := hK.out.r.lt
      by_cases hlt : k < vs.length
      · have hne : vs ≠ [] := by intro e; rw [e] at hlt; simp at hlt
        obtain ⟨a', cap', hv, hc⟩ := Hs.out.later hK.out.l
        cases hv
        obtain ⟨b, off, rfl, hbl, hcell⟩ := hc hne
        have hce := hcell k hlt
        have Hst := hid (vSl_take vs k hlt)
        have Hno := hid (all_not (vs := vs) (k := k) hlt)
        have Hxx : Hid (∀ x, x = vs.getD k 0 → inB (-65535) 65535 x = true → ∀ j, j < k + 1 → inB (-65535) 65535 (vs.getD j 0) = true) := by
          intro x hx hin j hj
          by_cases hjk : j < k
          · exact hK.out.ok j hjk
          · obtain rfl : j = k := by omega
            rw [← hx]; exact hin
        clear hc hcell hne
        generalize hx : vs.getD k 0 = x at *
        have Hx := hid hx
        clear hx
        have hkI : (k : Int) < (vs.length : Int) := by omega
        have HSx := hid (HSl.out x)
        cases hin : inB (-65535) 65535 x
        · have e1 : sC x = 3 := if_neg (by rw [hin]; decide)
          obtain ⟨m1, m2⟩ := v_bad hmany (Hno.out hin)
          have M1 := hid m1
          have M2 := hid m2
          rw [e1] at HSx
          clear m1 m2 Hno Hxx e1 Hst hin Hx HSl
          go_wp2_with fail
          refine (HSx.out _).mono ?_
          rintro e w1 ⟨u1, rfl, ho1, hb1⟩
          have hz1 := hb1.size
          have HR := hid ((hK.out.r.later hb1).alloc (.cells #[.int .i64 3, u1] 54))
          have HL := hid (below_set2 (bmore (bthen hK.out.l hb1) (.cells #[.int .i64 3, u1] 54)) (.int .i64 3) (.slice none 0 0))
          obtain ⟨z0, z1, f0, f1⟩ := HR.out.two
          have HE := hid ((HR.out.set 0 (.int .i64 3)).set 1 (.slice none 0 0))
          have hne1 : w.heap.size ≠ w1.heap.size := by omega
          obtain ⟨a1, c1, rfl, _⟩ := ho1.sls
          clear hb1 ho1 hK HSx HR
          go_wp2
          obtain ⟨y0, y1, _⟩ := HE.out.two
          exact bodyPost_ret (v := .agg #[.int .i64 3, .slice none 0 0]) (by simp [results, Tryd.results8, go_sem, y0, y1]) rfl ⟨_, by rw [M1.out], by rw [M2.out]; exact own_nil _ _ _ _, HL.out⟩
        · have e1 : sC x = 0 := if_pos hin
          have e2 : sL x = zSl (zg x) := if_pos hin
          have HX2 := hid (Hxx.out x rfl hin)
          rw [e1, e2] at HSx
          have hzl := zSl_len (zg x)
          have hvl := vSl_few vs k hl6
          have Hzn := hid (zSl_ne (zg x))
          clear e1 e2 Hno Hxx hin Hx
          generalize zSl (zg x) = ms at *
          go_wp2_with fail
          refine (HSx.out _).mono ?_
          rintro e w1 ⟨u1, rfl, ho1, hb1⟩
          have hz1 := hb1.size
          have HR := hid ((hK.out.r.later hb1).alloc (.cells #[.int .i64 0, u1] 54))
          have HO := hid (OwS.later (OwS.later hK.out.o hb1) (bmore (Below.refl _ _) (.cells #[.int .i64 0, u1] 54)))
          have HU := hid (ho1.sls.later (bmore (Below.refl _ _) (.cells #[.int .i64 0, u1] 54)))
          have HL := hid (bmore (bthen hK.out.l hb1) (.cells #[.int .i64 0, u1] 54))
          obtain ⟨a1, c1, rfl, _⟩ := ho1.sls
          clear hb1 ho1 hK HSx
          go_wp2_with (at_builtin; refine wpList_append_slots _ rfl _ _ rfl (w.heap.size + 1) _ (vSl (vs.take k)) rfl HO.out _ ms rfl HU.out Hzn.out ?c1 ?c2 ?_)
          case c1 => omega
          case c2 => simp; omega
          intro g5 cap5 n5 w5 hn5 ho5 hg5
          have HK5 : Hid (EV w vs (k + 1) (.slice (some ⟨g5, 0, none⟩) n5 cap5) w5) := by
            refine ⟨HR.out.kept hg5 (fun e => ?_), ?_, HL.out.trans (below_of_grown hg5 (by simp; omega) (fun i e => ?_)), HX2.out⟩
            · have := (OwS.lt HO.out _ e).1; omega
            · rw [Hst.out]; exact ho5
            · have := (OwS.lt HO.out _ e).1; omega
          clear hn5 ho5 hg5 HR HO HU HL
          go_wp2
          go_roundw
          case rel => exact ⟨k + 1, _, rfl, by go_num, by omega, HK5.out⟩
          case measure => simp [intOf]; omega
      · obtain rfl : k = vs.length := by omega
        have hall := all_of hK.out.ok
        obtain ⟨m1, m2⟩ := v_ok hmany hall
        have M1 := hid m1
        have M2 := hid m2
        have hav := (allB_iff vs).1 hall
        have hfew := vSl_few vs vs.length hl6
        rw [List.take_length] at hfew
        obtain ⟨c1, c2⟩ := eC_ok (ls := vSl vs) (by omega) (vSl_ok hav)
        have HO := hK.out.o
        rw [List.take_length] at HO
        have HE := hid (implEnc_calls _ (vSl vs) wr HO.sls (by omega))
        rw [c1, c2] at HE
        have HB : Hid (encL (sns (vSl vs)) = vB vs) := rfl
        clear m1 m2 c1 c2 HO hav hall
        go_wp2_with fail
        refine HE.out.mono ?_
        rintro e w1 ⟨u1, rfl, ho1, hb1⟩
        have HR := hid (hK.out.r.later hb1)
        have hsz1 := hb1.size
        obtain ⟨z0, z1, f0, f1⟩ := HR.out.two
        have HO1 := hid (Ow.set2 (ho1.mono (show w.heap.size + 1 ≤ wr.heap.size by omega)) (.int .i64 0) u1)
        have HL := hid (below_set2 (bthen hK.out.l hb1) (.int .i64 0) u1)
        have HE2 := hid ((HR.out.set 0 (.int .i64 0)).set 1 u1)
        obtain ⟨a1, cc1, rfl, _⟩ := ho1.sl
        clear hb1 ho1 hK HE HR
        generalize (encL (sns (vSl vs))).length = m at *
        go_wp2
        obtain ⟨y0, y1, _⟩ := HE2.out.two
        exact bodyPost_ret (v := .agg #[.int .i64 0, .slice a1 m cc1]) (by simp [results, Tryd.results8, go_sem, y0, y1]) rfl ⟨_, by rw [M1.out], by rw [M2.out, ← HB.out]; exact HO1.out, HL.out⟩
theorem l1All_calls (v : Value) (vs : List Int) (w : World) (h : Sl .i64 w v vs) (hm : vs.length ≤ 1048576) :
    Calls Tryd.prog 39 #[v, .int .i64 (-65535), .int .i64 65535] w fun e w' => e = .returned (.bool (allB vs)) ∧ w' = w := by
  have Hs := hid h
  obtain ⟨a, cap, rfl, _⟩ := h
  go_enter Tryd.func39, Tryd.ntmps39
  go_wp2_with fail
  go_loop [7] (fun i => ∃ k : Nat, i = .int .i64 (k : Int) ∧ k ≤ vs.length ∧ Hid (∀ j, j < k → inB (-65535) 65535 (vs.getD j 0) = true)) (fun i => vs.length - (intOf i).toNat)
  case atStart => exact ⟨0, rfl, Nat.zero_le _, fun j hj => by omega⟩
  case round =>
    obtain ⟨k, rfl, hk, hok⟩ := hrel
    by_cases hlt : k < vs.length
    · have hne : vs ≠ [] := by intro e; rw [e] at hlt; simp at hlt
      obtain ⟨a', cap', hv, hc⟩ := Hs.out
      cases hv
      obtain ⟨b, off, rfl, hbl, hcell⟩ := hc hne
      have hce := hcell k hlt
      have hno := hid (all_not (vs := vs) (k := k) hlt)
      have hyes : Hid (inB (-65535) 65535 (vs.getD k 0) = true → ∀ j, j < k + 1 → inB (-65535) 65535 (vs.getD j 0) = true) := by
        intro hx j hj
        by_cases hjk : j < k
        · exact hok.out j hjk
        · obtain rfl : j = k := by omega
          exact hx
      clear hc hcell hne hok
      generalize vs.getD k 0 = x at *
      have hkI : (k : Int) < (vs.length : Int) := by omega
      cases hin : inB (-65535) 65535 x
      · have M := hid (hno.out hin)
        clear hno hyes
        go_wp2_with (go_at_call 40; refine (l1In_calls _ _ _ _).mono ?_; rintro e w' ⟨rfl, rfl⟩; simp only [hin])
        go_ret
        exact ⟨by rw [M.out]; rfl, rfl⟩
      · have M := hid (hyes.out hin)
        clear hno hyes
        go_wp2_with (go_at_call 40; refine (l1In_calls _ _ _ _).mono ?_; rintro e w' ⟨rfl, rfl⟩; simp only [hin])
        go_round
        case rel => exact ⟨k + 1, by go_num, by omega, M.out⟩
        case measure => simp [intOf]; omega
    · obtain rfl : k = vs.length := by omega
      have M := hid (all_of hok.out)
      go_wp2
      go_ret
      exact ⟨by rw [M.out]; rfl, rfl⟩
/-- What l4Encode has told so far. -/
structure EL (w : World) (vs : List Int) (k g n cap : Nat) (W : World) : Prop where
  o : OwS w.heap.size W (.slice (some ⟨g, 0, none⟩) n cap) (vSl (vs.take k))
  l : Below w.heap.size w W
set_option maxRecDepth 100000 in
set_option maxHeartbeats 2000000 in
theorem l4Encode_calls (v : Value) (vs : List Int) (w : World) (h : Sl .i64 w v vs) (hl6 : vs.length ≤ 64) (hall : allB vs = true) :
    Calls Tryd.prog 34 #[v] w fun e w' => ∃ g cap, e = .returned (.slice (some ⟨g, 0, none⟩) (vB vs).length cap) ∧ OwB w.heap.size w' (.slice (some ⟨g, 0, none⟩) (vB vs).length cap) (vB vs) ∧ Below w.heap.size w w' := by
  have Hs := hid h
  obtain ⟨a, cap, rfl, _⟩ := h
  have Hav := hid ((allB_iff vs).1 hall)
  have HK : Hid (EL w vs 0 w.heap.size 0 0 (w.alloc (.cells #[] 75))) := ⟨owS_new _ _ (Nat.le_refl _), bmore (Below.refl _ _) _⟩
  clear hall
  go_enter Tryd.func34, Tryd.ntmps34
  go_wp2_with fail
  go_loopw [3, 4] (fun o i wr => ∃ (k g n cp : Nat), o = .slice (some ⟨g, 0, none⟩) n cp ∧ i = .int .i64 (k : Int) ∧ k ≤ vs.length ∧ Hid (EL w vs k g n cp wr)) (fun _ i _ => vs.length - (intOf i).toNat)
  case atStart => exact ⟨0, _, _, _, rfl, rfl, Nat.zero_le _, HK.out⟩
  case round =>
    clear HK
    obtain ⟨k, g, n, cp, rfl, rfl, hk, hK⟩ := hrel
    have hsz0 := hK.out.l.size
    by_cases hlt : k < vs.length
    · have hne : vs ≠ [] := by intro e; rw [e] at hlt; simp at hlt
      obtain ⟨a', cap', hv, hc⟩ := Hs.out.later hK.out.l
      cases hv
      obtain ⟨b, off, rfl, hbl, hcell⟩ := hc hne
      have hce := hcell k hlt
      have Hst := hid (vSl_take vs k hlt)
      have hin : inB (-65535) 65535 (vs.getD k 0) = true := by
        have := Hav.out (vs.getD k 0) (by rw [List.getD_eq_getElem?_getD, List.getElem?_eq_getElem hlt]; exact List.getElem_mem hlt)
        exact inB_yes this.1 this.2
      have HSx := hid (fun W => l4Slots_calls (vs.getD k 0) W hin)
      have hzl := zSl_len (zg (vs.getD k 0))
      have hvl := vSl_few vs k hl6
      have Hzn := hid (zSl_ne (zg (vs.getD k 0)))
      have hkI : (k : Int) < (vs.length : Int) := by omega
      clear hc hcell hne hin
      generalize vs.getD k 0 = x at *
      generalize zSl (zg x) = ms at *
      go_wp2_with fail
      refine (HSx.out _).mono ?_
      rintro e w1 ⟨g1, c1, rfl, ho1, hb1⟩
      have HO := hid (OwS.later hK.out.o hb1)
      have HU := hid ho1.sls
      have HL := hid (bthen hK.out.l hb1)
      have hz1 := hb1.size
      clear hb1 ho1 hK HSx
      go_wp2_with (at_builtin; refine wpList_append_slots _ rfl _ _ rfl w.heap.size _ (vSl (vs.take k)) rfl HO.out _ ms rfl HU.out Hzn.out ?c1 ?c2 ?_)
      case c1 => omega
      case c2 => omega
      intro g5 cap5 n5 w5 hn5 ho5 hg5
      have HK5 : Hid (EL w vs (k + 1) g5 n5 cap5 w5) := by
        refine ⟨?_, HL.out.trans (below_of_grown hg5 (by omega) (fun i e => (OwS.lt HO.out _ e).1))⟩
        rw [Hst.out]; exact ho5
      clear hn5 ho5 hg5 HO HU HL
      go_wp2
      go_roundw
      case rel => exact ⟨k + 1, _, _, _, rfl, by go_num, by omega, HK5.out⟩
      case measure => simp [intOf]; omega
    · obtain rfl : k = vs.length := by omega
      have hfew := vSl_few vs vs.length hl6
      rw [List.take_length] at hfew
      have HO := hK.out.o
      rw [List.take_length] at HO
      have HE := hid (l3Encode_calls _ (vSl vs) wr HO.sls (by omega) (vSl_ok Hav.out))
      rw [show encL (sns (vSl vs)) = vB vs from rfl] at HE
      have HL := hid hK.out.l
      clear HO hK
      generalize hbs : vB vs = bs at *
      have Hbs := hid hbs
      clear hbs
      go_wp2_with fail
      refine HE.out.mono ?_
      rintro e w1 ⟨g1, c1, rfl, ho1, hb1⟩
      have HO1 := hid (ho1.mono hsz0)
      have HL1 := hid (bthen HL.out hb1)
      clear ho1 hb1 HE
      go_wp2
      go_ret
      exact ⟨g1, c1, by rw [Hbs.out]; rfl, by rw [Hbs.out]; exact HO1.out, HL1.out⟩
theorem specEncV_calls (v : Value) (vs : List Int) (w : World) (h : Sl .i64 w v vs) (hm : vs.length ≤ 1048576) :
    Calls Tryd.prog 11 #[v] w fun e w' => ∃ u, e = .returned (.agg #[.int .i64 (vC vs), u]) ∧ OwB w.heap.size w' u (vL vs) ∧ Below w.heap.size w w' := by
  have Hs := hid h
  have HB := hid (bmore (Below.refl w.heap.size w) (.cells #[.int .i64 0, .slice none 0 0] 27))
  have HA := hid (l1All_calls v vs (w.alloc (.cells #[.int .i64 0, .slice none 0 0] 27)) (h.later HB.out) hm)
  obtain ⟨a, cap, rfl, _⟩ := h
  by_cases hmany : 64 < vs.length
  · obtain ⟨m1, m2⟩ := v_many hmany
    have M1 := hid m1
    have M2 := hid m2
    clear m1 m2
    have hI : (64 : Int) < (vs.length : Int) := by omega
    have HL := hid (bmore (Below.refl w.heap.size w) (.cells #[.int .i64 2, .slice none 0 0] 27))
    go_enter Tryd.func11, Tryd.ntmps11
    go_wp2
    exact bodyPost_ret (v := .agg #[.int .i64 2, .slice none 0 0]) (by simp [results, Tryd.results11, go_sem]) rfl ⟨_, by rw [M1.out], by rw [M2.out]; exact own_nil _ _ _ _, HL.out⟩
  · have hI : (vs.length : Int) ≤ 64 := by omega
    cases hall : allB vs
    · obtain ⟨m1, m2⟩ := v_bad hmany hall
      have M1 := hid m1
      have M2 := hid m2
      rw [hall] at HA
      clear m1 m2
      have HL := hid (bmore (Below.refl w.heap.size w) (.cells #[.int .i64 3, .slice none 0 0] 27))
      go_enter Tryd.func11, Tryd.ntmps11
      go_wp2_with fail
      refine HA.out.mono ?_
      rintro e w1 ⟨rfl, rfl⟩
      go_wp2
      exact bodyPost_ret (v := .agg #[.int .i64 3, .slice none 0 0]) (by simp [results, Tryd.results11, go_sem]) rfl ⟨_, by rw [M1.out], by rw [M2.out]; exact own_nil _ _ _ _, HL.out⟩
    · obtain ⟨m1, m2⟩ := v_ok hmany hall
      have M1 := hid m1
      have M2 := hid m2
      rw [hall] at HA
      have HE := hid (l4Encode_calls _ vs (w.alloc (.cells #[.int .i64 0, .slice none 0 0] 27)) (Hs.out.later HB.out) (by omega) hall)
      rw [World.size_alloc] at HE
      have HN := hid (Blk.new w #[.int .i64 0, .slice none 0 0] 27)
      clear m1 m2
      generalize vB vs = bs at *
      go_enter Tryd.func11, Tryd.ntmps11
      go_wp2_with fail
      refine HA.out.mono ?_
      rintro e w1 ⟨rfl, rfl⟩
      go_wp2_with fail
      refine HE.out.mono ?_
      rintro e w1 ⟨g1, c1, rfl, ho1, hb1⟩
      have HZ := hid (HN.out.below hb1 (by omega))
      obtain ⟨z0, z1, f0, f1⟩ := HZ.out.two
      have HO := hid (Ow.set2 ho1 (.int .i64 0) (.slice (some ⟨g1, 0, none⟩) bs.length c1))
      have HL := hid (below_set2 (HB.out.trans (hb1.mono (by omega))) (.int .i64 0) (.slice (some ⟨g1, 0, none⟩) bs.length c1))
      have HE2 := hid ((HZ.out.set 0 (.int .i64 0)).set 1 (.slice (some ⟨g1, 0, none⟩) bs.length c1))
      clear hb1 ho1 HE HA
      generalize bs.length = m at *
      go_wp2
      obtain ⟨y0, y1, _⟩ := HE2.out.two
      exact bodyPost_ret (v := .agg #[.int .i64 0, .slice (some ⟨g1, 0, none⟩) m c1]) (by simp [results, Tryd.results11, go_sem, y0, y1]) rfl ⟨_, by rw [M1.out], by rw [M2.out]; exact HO.out, HL.out⟩
end Go.Proofs.YthecfboplfmdmaaDoor.EncV
