/- The walks through the exact laws of FeedFrame and PlayBlock, for a program that answers by the common answers. Condition: the program's own contract, wherever nothing that was there before has turned. -/
import Derived.Test.YtgnbailcibhenaaDoorGa
import Derived.Test.YtgnbailcibhenaaDoorGf
import Derived.Test.YtgnbailcibhenaaDoorGk
namespace Go.Proofs.YtgnbailcibhenaaDoor.ExFd
open Go.ChangeShapes Go.WideShapes Go.ChangeAt Go.RowKit Go.Proofs.YtgnbailcibhenaaDoor.Num Go.Proofs.YtgnbailcibhenaaDoor.Sli Go.Proofs.YtgnbailcibhenaaDoor.App Go.Proofs.YtgnbailcibhenaaDoor.Samp Go.Proofs.YtgnbailcibhenaaDoor.Blk Go.Proofs.YtgnbailcibhenaaDoor.LapM Go.Proofs.YtgnbailcibhenaaDoor.LapN Go.Proofs.YtgnbailcibhenaaDoor.IntL Go.Proofs.YtgnbailcibhenaaDoor.OwsG Go.Proofs.YtgnbailcibhenaaDoor.LapS Go.Proofs.YtgnbailcibhenaaDoor.LapW Go.Proofs.YtgnbailcibhenaaDoor.LapX Go.Proofs.YtgnbailcibhenaaDoor.LapY Go.Proofs.YtgnbailcibhenaaDoor.LapZ Go.Proofs.YtgnbailcibhenaaDoor.ExLf Go.Proofs.YtgnbailcibhenaaDoor.ExKx
open Go.Proofs.YtgnbailcibhenaaDoor.ToInt (eqInt64S_calls)

/-- How long the answers are. -/
theorem fd_lens (s : Int) (half rest fr : List Int) : (fdU s half rest fr).length ≤ 16 ∧ (fdV s half rest fr).length ≤ 16 ∧ (fdW s half rest fr).length ≤ 16 := by
  by_cases h : fdC s half rest fr = 0
  · obtain ⟨h1, h2, _⟩ := fed_right h
    obtain ⟨hz, l1, l2, _⟩ := lf_ok h1
    obtain ⟨_, _, e2, _, e4, _⟩ := sz_nat hz
    rw [show fdU s half rest fr = fdH s rest fr from if_pos h, show fdV s half rest fr = fr.drop (hN s) from if_pos h, show fdW s half rest fr = fdK s half rest fr from if_pos h]
    omega
  · rw [show fdU s half rest fr = [] from if_neg h, show fdV s half rest fr = [] from if_neg h, show fdW s half rest fr = [] from if_neg h]; simp
theorem pl_lens (s : Int) (head tail co : List Int) : (plU s head tail co).length ≤ 16 ∧ (plV s head tail co).length ≤ 16 ∧ (plW s head tail co).length ≤ 16 := by
  by_cases h : plC s head tail co = 0
  · obtain ⟨h1, h2⟩ := played_right h
    obtain ⟨hz, l1, l2, _⟩ := sy_ok h1
    obtain ⟨_, _, e2, _, e4, _⟩ := sz_nat hz
    rw [show plU s head tail co = plH s tail co from if_pos h, show plV s head tail co = (plB s co).drop (hN s) from if_pos h, show plW s head tail co = head ++ plT s tail co from if_pos h]
    omega
  · rw [show plU s head tail co = [] from if_neg h, show plV s head tail co = [] from if_neg h, show plW s head tail co = [] from if_neg h]; simp
theorem feed_sl (s : Int) (v1 v2 v3 : Value) (x1 x2 x3 : List Int) (W : World) (q1 : Sl .i64 W v1 x1) (q2 : Sl .i64 W v2 x2) (q3 : Sl .i64 W v3 x3) (q4 : Fits v3) (l1 : x1.length ≤ 1048576) (l2 : x2.length ≤ 1048576) :
    Calls Tryd.prog 18 #[.agg #[.int .i64 s, v1, v2], v3] W fun e w' => ∃ u t k, e = .returned (.agg #[.int .i64 (fdC s x1 x2 x3), .int .i64 (fdS s x1 x2 x3), u, t, k]) ∧ Sl .i64 w' u (fdU s x1 x2 x3) ∧ Sl .i64 w' t (fdV s x1 x2 x3) ∧ Sl .i64 w' k (fdW s x1 x2 x3) ∧ Below W.heap.size W w' := by
  refine (specFeedFrame_calls s v1 v2 v3 x1 x2 x3 W q1 q2 q3 q4 l1 l2).mono ?_
  rintro e w' ⟨u, t, k, rfl, ht, hk, hb⟩
  exact ⟨u, t, k, rfl, ht.s.sl, ht.d.sl, hk.sl, hb⟩
theorem play_sl (s : Int) (v1 v2 v3 : Value) (x1 x2 x3 : List Int) (W : World) (q1 : Sl .i64 W v1 x1) (q2 : Sl .i64 W v2 x2) (q3 : Sl .i64 W v3 x3) (l1 : x1.length ≤ 1048576) (l2 : x2.length ≤ 1048576) (l3 : x3.length ≤ 1048576) :
    Calls Tryd.prog 19 #[.agg #[.int .i64 s, v1, v2], v3] W fun e w' => ∃ u t k, e = .returned (.agg #[.int .i64 (plC s x1 x2 x3), .int .i64 (plS s x1 x2 x3), u, t, k]) ∧ Sl .i64 w' u (plU s x1 x2 x3) ∧ Sl .i64 w' t (plV s x1 x2 x3) ∧ Sl .i64 w' k (plW s x1 x2 x3) ∧ Below W.heap.size W w' := by
  refine (specPlayBlock_calls s v1 v2 v3 x1 x2 x3 W q1 q2 q3 l1 l2 l3).mono ?_
  rintro e w' ⟨u, t, k, rfl, ht, hk, hb⟩
  exact ⟨u, t, k, rfl, ht.s.sl, ht.d.sl, hk.sl, hb⟩
set_option maxRecDepth 100000 in
set_option maxHeartbeats 4000000 in
theorem exactFeedFrame_calls (s : Int) (a1 a2 : Option Addr) (c1 c2 : Nat) (x1 x2 : List Int) (a3 : Option Addr) (c3 : Nat) (x3 : List Int) (w : World) (h1 : Sl .i64 w (.slice a1 x1.length c1) x1) (h2 : Sl .i64 w (.slice a2 x2.length c2) x2) (h3 : Sl .i64 w (.slice a3 x3.length c3) x3) (m1 : x1.length ≤ maxLen) (m2 : x2.length ≤ maxLen)
    (HI0 : ∀ (s : Int) (v1 v2 v3 : Value) (x1 x2 x3 : List Int) (W : World), Below w.heap.size w W → Sl .i64 W v1 x1 → Sl .i64 W v2 x2 → Sl .i64 W v3 x3 → Fits v1 → Fits v2 → Fits v3 → x1.length ≤ 1048576 → x2.length ≤ 1048576 → x3.length ≤ 1048576 → Calls Tryd.prog 13 #[.agg #[.int .i64 s, v1, v2], v3] W fun e w' => ∃ u t k, e = .returned (.agg #[.int .i64 (fdC s x1 x2 x3), .int .i64 (fdS s x1 x2 x3), u, t, k]) ∧ OWS W.heap.size w' [(u, fdU s x1 x2 x3), (t, fdV s x1 x2 x3), (k, fdW s x1 x2 x3)] ∧ Below W.heap.size W w') :
    Calls Tryd.prog 5 #[.agg #[.int .i64 s, .slice a1 x1.length c1, .slice a2 x2.length c2], .slice a3 x3.length c3] w fun e w' => e = .returned (.bool true) ∧ Below w.heap.size w w' := by
  by_cases hbig3 : 1048576 < x3.length
  · have hb' : (1048576 : Int) < x3.length := by omega
    clear HI0 h1 h2 h3
    go_enter Tryd.func5, Tryd.ntmps5
    go_wp2
    go_ret
    exact ⟨rfl, bmore (Below.refl _ _) _⟩
  · have hb' : (x3.length : Int) ≤ 1048576 := by omega
    have l3 : x3.length ≤ 1048576 := by omega
    have HI := hid HI0
    have HP := hid (PL.new s 57 h1 h2)
    have H1 := hid h1
    have H2 := hid h2
    have H3 := hid h3
    have HZ := hid (fun W => szLap_calls s 1048576 a1 a2 x1.length x2.length c1 c2 W m1 m2 (by omega) (by omega))
    clear HI0 h1 h2 h3 m1 m2 hbig3
    obtain ⟨p0, p1, p2, _⟩ := HP.out.p.three
    by_cases hbig : ((x1.length + x2.length : Nat) : Int) ≤ 1048576
    · rw [szV_yes hbig] at HZ
      have l1 : x1.length ≤ 1048576 := by omega
      have l2 : x2.length ≤ 1048576 := by omega
      have hz : 0 ≤ 1048576 - ((x1.length + x2.length : Nat) : Int) := by omega
      obtain ⟨y1, y2, y3⟩ := fd_lens s x1 x2 x3
      have HS := hid (fun W v1 v2 v3 (q1 : Sl .i64 W v1 x1) (q2 : Sl .i64 W v2 x2) (q3 : Sl .i64 W v3 x3) (q4 : Fits v3) => feed_sl s v1 v2 v3 x1 x2 x3 W q1 q2 q3 q4 l1 l2)
      have HIx := hid (fun W (hW : Below w.heap.size w W) v1 v2 v3 (q1 : Sl .i64 W v1 x1) (q2 : Sl .i64 W v2 x2) (q3 : Sl .i64 W v3 x3) (f1 : Fits v1) (f2 : Fits v2) (f3 : Fits v3) => HI.out s v1 v2 v3 x1 x2 x3 W hW q1 q2 q3 f1 f2 f3 l1 l2 l3)
      have hk12 : 1 + x1.length + x2.length ≤ 5000000 := by omega
      clear hbig HI
      generalize 1048576 - ((x1.length + x2.length : Nat) : Int) = z at *
      generalize fdC s x1 x2 x3 = c at *
      generalize fdS s x1 x2 x3 = r at *
      generalize fdU s x1 x2 x3 = U at *
      generalize fdV s x1 x2 x3 = V at *
      generalize fdW s x1 x2 x3 = K at *
      have yl1 : U.length ≤ 1048576 := by omega
      have yl2 : V.length ≤ 1048576 := by omega
      have yl3 : K.length ≤ 1048576 := by omega
      go_enter Tryd.func5, Tryd.ntmps5
      go_wp2_with fail
      refine (HZ.out _).mono ?_
      rintro e w1 ⟨rfl, hb⟩
      have HP1 := hid (HP.out.later hb)
      clear hb HP p0 p1 p2 HZ
      obtain ⟨p0, p1, p2, _⟩ := HP1.out.p.three
      go_wp2_with fail
      refine (toLap_calls s _ _ x1 x2 _ HP1.out.s1 HP1.out.s2 l1 l2).mono ?_
      rintro e w2 ⟨g1, g2, rfl, ho2, hb⟩
      have HP2 := hid (HP1.out.later hb)
      have HO2 := hid ho2
      clear hb HP1 p0 p1 p2 ho2
      go_wp2_with fail
      refine (toInt64S_calls _ x3 _ (H3.out.later HP2.out.l) l3).mono ?_
      rintro e w3 ⟨g3, rfl, ho3, hb⟩
      have HP3 := hid (HP2.out.later hb)
      have HO3 := hid (HO2.out.later hb)
      have HT3 := hid ho3
      clear hb HP2 HO2 ho3
      go_wp2_with fail
      refine (HS.out _ _ _ _ HO3.out.h1.sl HO3.out.h2.sl HT3.out.sl (Nat.le_refl _)).mono ?_
      rintro e w4 ⟨u, t, k, rfl, hu, ht, hk, hb⟩
      have HP4 := hid (HP3.out.later hb)
      obtain ⟨au, cu, rfl, -⟩ := id hu
      obtain ⟨at', ct, rfl, -⟩ := id ht
      obtain ⟨ak, ck, rfl, -⟩ := id hk
      have ha := bmore (Below.refl w4.heap.size w4) (.cells #[.int .i64 c, .int .i64 r, .slice au U.length cu, .slice at' V.length ct, .slice ak K.length ck] 41)
      have HU := hid (hu.later ha)
      have HV := hid (ht.later ha)
      have HK := hid (hk.later ha)
      have HPW := hid (Blk.new w4 #[.int .i64 c, .int .i64 r, .slice au U.length cu, .slice at' V.length ct, .slice ak K.length ck] 41)
      have HP5 := hid (HP4.out.later ha)
      have hP4 := HP4.out.p.lt
      obtain ⟨p0, p1, p2, _⟩ := HP4.out.p.three
      have hszA : (w4.alloc (.cells #[.int .i64 c, .int .i64 r, .slice au U.length cu, .slice at' V.length ct, .slice ak K.length ck] 41)).heap.size = w4.heap.size + 1 := World.size_alloc _ _
      clear hb HP3 HO3 HT3 hu ht hk ha HP4 HS
      go_wp2_with fail
      generalize (w4.alloc (.cells #[.int .i64 c, .int .i64 r, .slice au U.length cu, .slice at' V.length ct, .slice ak K.length ck] 41)) = w5 at *
      clear p0 p1 p2
      refine (toLap_calls s _ _ x1 x2 _ HP5.out.s1 HP5.out.s2 l1 l2).mono ?_
      rintro e w6 ⟨g4, g5, rfl, ho6, hb⟩
      have ha := bmore (Below.refl w6.heap.size w6) (.cells #[.int .i64 s, .slice (some ⟨g4, 0, none⟩) x1.length x1.length, .slice (some ⟨g5, 0, none⟩) x2.length x2.length] 29)
      have hbb := bthen hb ha
      have hbk6 : ∀ j, Ob [.slice (some ⟨g4, 0, none⟩) x1.length x1.length, .slice (some ⟨g5, 0, none⟩) x2.length x2.length] j → w5.heap.size + 1 ≤ j ∧ j < w6.heap.size := fun j e => ho6.blocks e
      have HBK6 := hid hbk6
      have HO6 := hid (ho6.later ha)
      have HPX := hid (Blk.new w6 #[.int .i64 s, .slice (some ⟨g4, 0, none⟩) x1.length x1.length, .slice (some ⟨g5, 0, none⟩) x2.length x2.length] 29)
      have HP7 := hid (HP5.out.later hbb)
      have HPW7 := hid (HPW.out.later hbb)
      have HB57 := hid hbb
      have hsz6 := hb.size
      have hszX : (w6.alloc (.cells #[.int .i64 s, .slice (some ⟨g4, 0, none⟩) x1.length x1.length, .slice (some ⟨g5, 0, none⟩) x2.length x2.length] 29)).heap.size = w6.heap.size + 1 := World.size_alloc _ _
      clear hb ha hbb ho6 hbk6 HP5 HPW
      go_wp2_with fail
      generalize (w6.alloc (.cells #[.int .i64 s, .slice (some ⟨g4, 0, none⟩) x1.length x1.length, .slice (some ⟨g5, 0, none⟩) x2.length x2.length] 29)) = w7 at *
      refine (toInt64S_calls _ x3 _ (H3.out.later HP7.out.l) l3).mono ?_
      rintro e w8 ⟨g6, rfl, ho8, hb⟩
      have hg6 := ho8.block g6 rfl
      have HP8 := hid (HP7.out.later hb)
      have HPW8 := hid (HPW7.out.later hb)
      have HPX8 := hid (HPX.out.later hb)
      have HB58 := hid (bthen HB57.out hb)
      have hsz8 := hb.size
      have HX8 : Hid (OWS (w5.heap.size + 1) w8 [(.slice (some ⟨g4, 0, none⟩) x1.length x1.length, x1), (.slice (some ⟨g5, 0, none⟩) x2.length x2.length, x2), (.slice (some ⟨g6, 0, none⟩) x3.length x3.length, x3)]) := by
        refine OWS.three (HO6.out.later hb) (App.Ow.mono ho8 (by omega)) (fun g e1 e2 => ?_) (fun g e1 e2 => ?_)
        · have h1 := HBK6.out g ⟨_, List.mem_cons_self .., e1⟩; simp [Value.ownBlock] at e2; omega
        · have h1 := HBK6.out g ⟨_, List.mem_cons_of_mem _ (List.mem_cons_self ..), e1⟩; simp [Value.ownBlock] at e2; omega
      clear hb ho8 HP7 HPW7 HPX HB57 HO6
      obtain ⟨x0', x1', x2', _⟩ := HPX8.out.three
      go_wp2_with fail
      refine (HIx.out _ HP8.out.l _ _ _ HX8.out.h1.sl HX8.out.h2.sl HX8.out.h3.sl (Nat.le_refl _) (Nat.le_refl _) (Nat.le_refl _)).mono ?_
      rintro e w9 ⟨v1, v2, v3, rfl, ho9, hb9⟩
      obtain ⟨av, cv, rfl, -⟩ := ho9.h1.sl
      obtain ⟨ax, cx, rfl, -⟩ := ho9.h2.sl
      obtain ⟨ay, cy, rfl, -⟩ := ho9.h3.sl
      have ha := bmore (Below.refl w9.heap.size w9) (.cells #[.int .i64 c, .int .i64 r, .slice av U.length cv, .slice ax V.length cx, .slice ay K.length cy] 41)
      have hbb := bthen hb9 ha
      have hK : KX w [(w.heap.size, #[.int .i64 s, .slice a1 x1.length c1, .slice a2 x2.length c2], 57), (w4.heap.size, #[.int .i64 c, .int .i64 r, .slice au U.length cu, .slice at' V.length ct, .slice ak K.length ck], 41), (w6.heap.size, #[.int .i64 s, .slice (some ⟨g4, 0, none⟩) x1.length x1.length, .slice (some ⟨g5, 0, none⟩) x2.length x2.length], 29), (w9.heap.size, #[.int .i64 c, .int .i64 r, .slice av U.length cv, .slice ax V.length cx, .slice ay K.length cy], 41)] w5.heap.size w8.heap.size [(.slice au U.length cu, U), (.slice at' V.length ct, V), (.slice ak K.length ck, K)] [(.slice av U.length cv, U), (.slice ax V.length cx, V), (.slice ay K.length cy, K)] (w9.alloc (.cells #[.int .i64 c, .int .i64 r, .slice av U.length cv, .slice ax V.length cx, .slice ay K.length cy] 41)) := by
        have h58 := HB58.out.trans (hbb.mono HB58.out.size)
        refine ⟨fun p hp => ?_, fun p hp => ?_, ho9.later ha, HB58.out.size, hbb.size, by omega, bthen HP8.out.l hbb⟩
        · rcases List.mem_cons.1 hp with rfl | hp
          · exact HP8.out.p.later hbb
          · rcases List.mem_cons.1 hp with rfl | hp
            · exact HPW8.out.later hbb
            · rcases List.mem_cons.1 hp with rfl | hp
              · exact HPX8.out.later hbb
              · rcases List.mem_cons.1 hp with rfl | hp
                · exact Blk.new _ _ _
                · cases hp
        · rcases List.mem_cons.1 hp with rfl | hp
          · exact (Sb.of HU.out).keep h58
          · rcases List.mem_cons.1 hp with rfl | hp
            · exact (Sb.of HV.out).keep h58
            · rcases List.mem_cons.1 hp with rfl | hp
              · exact (Sb.of HK.out).keep h58
              · cases hp
      have HGB : Hid (∀ j, Ob [.slice av U.length cv, .slice ax V.length cx, .slice ay K.length cy] j → w8.heap.size ≤ j ∧ j < w9.heap.size) := fun j e => ho9.blocks e
      have HKK := hid hK
      have HX10 := hid ((HX8.out.later hb9).later ha)
      have hsz9 := hb9.size
      obtain ⟨q0, q1, q2, q3, q4, _⟩ := (HPW8.out.later hb9).five
      have hlt9 := (HPW8.out.later hb9).lt
      clear ho9 hb9 ha hbb hK HP8 HPW8 HPX8 HB58 HX8 HU HV HK x0' x1' x2'
      go_wp2_with fail
      refine (eqFeedResult_calls c r _ _ _ _ _ _ U V K _ HKK.out.og.h1.sl HKK.out.og.h2.sl HKK.out.og.h3.sl HKK.out.w0 HKK.out.w1 HKK.out.w2 yl1 yl2 yl3).mono ?_
      rintro e w11 ⟨rfl, hb⟩
      have hHK : KX w [(w.heap.size, #[.int .i64 s, .slice a1 x1.length c1, .slice a2 x2.length c2], 57), (w4.heap.size, #[.int .i64 c, .int .i64 r, .slice au U.length cu, .slice at' V.length ct, .slice ak K.length ck], 41), (w6.heap.size, #[.int .i64 s, .slice (some ⟨g4, 0, none⟩) x1.length x1.length, .slice (some ⟨g5, 0, none⟩) x2.length x2.length], 29), (w9.heap.size, #[.int .i64 c, .int .i64 r, .slice av U.length cv, .slice ax V.length cx, .slice ay K.length cy], 41)] w5.heap.size w8.heap.size [(.slice au U.length cu, U), (.slice at' V.length ct, V), (.slice ak K.length ck, K)] [(.slice av U.length cv, U), (.slice ax V.length cx, V), (.slice ay K.length cy, K)] w11 := HKK.out.later hb
      have HX11 := hid (HX10.out.later hb)
      clear hb HKK HX10 q0 q1 q2 q3 q4 hlt9
      have HK11 := hid hHK
      clear hHK
      have hloA := HK11.out.lo
      obtain ⟨p0, p1, p2, _⟩ := HK11.out.b0.three
      obtain ⟨e0, e1, e2, _⟩ := HK11.out.b2.three
      have hl0 := HK11.out.b0.lt
      have hlX := HK11.out.b2.lt
      have hL0 : Below w11.heap.size w11 w11.drew := (Below.refl _ _).drew
      have hCs : ∀ W, Below w11.heap.size w11 W → W.cell? ⟨w.heap.size, 0, none⟩ = some (.int .i64 s) ∧ W.cell? ⟨w.heap.size, 1, none⟩ = some (.slice a1 x1.length c1) ∧ W.cell? ⟨w.heap.size, 2, none⟩ = some (.slice a2 x2.length c2) ∧ W.cell? ⟨w6.heap.size, 0, none⟩ = some (.int .i64 s) ∧ W.cell? ⟨w6.heap.size, 1, none⟩ = some (.slice (some ⟨g4, 0, none⟩) x1.length x1.length) ∧ W.cell? ⟨w6.heap.size, 2, none⟩ = some (.slice (some ⟨g5, 0, none⟩) x2.length x2.length) :=
        fun W h => ⟨(h.cell (p := ⟨w.heap.size, 0, none⟩) hl0).trans p0, (h.cell (p := ⟨w.heap.size, 1, none⟩) hl0).trans p1, (h.cell (p := ⟨w.heap.size, 2, none⟩) hl0).trans p2, (h.cell (p := ⟨w6.heap.size, 0, none⟩) hlX).trans e0, (h.cell (p := ⟨w6.heap.size, 1, none⟩) hlX).trans e1, (h.cell (p := ⟨w6.heap.size, 2, none⟩) hlX).trans e2⟩
      have HBX : Hid (∀ j, Ob [.slice (some ⟨g4, 0, none⟩) x1.length x1.length, .slice (some ⟨g5, 0, none⟩) x2.length x2.length] j → w5.heap.size ≤ j ∧ j < w6.heap.size) := fun j e => by have := HBK6.out j e; omega
      have HBY : w6.heap.size < g6 ∧ g6 < w8.heap.size := by omega
      clear HBK6 hg6
      generalize w4.heap.size = A0 at *
      generalize w5.heap.size = A at *
      generalize w6.heap.size = X at *
      generalize w7.heap.size = X1 at *
      generalize w8.heap.size = B at *
      generalize w9.heap.size = G at *
      go_wp2_with fail
      refine wp_region_noPanic ?_
      refine wp_region_held_drew (S := fun W => Below w11.heap.size w11 W) (by kernel_rfl) ?_ (fun hHeld => ?_)
      · first | exact hL13 | exact hL12 | exact hL0
      (refine wpAnyH_take (i := 0) (v := ?_) rfl (by kernel_rfl) (by kernel_rfl) (by kernel_rfl) (fun _ _ _ h => h) (Or.inl ⟨by rfl, ?_⟩) hHeld ?_; rotate_left; (intro w hSw; (obtain ⟨s0, s1, s2, s3, s4, s5⟩ := hCs _ hSw; clear hSw); (go_simp <;> with_reducible rfl)); simp only [List.getElem_toArray, List.getElem_cons_zero, Act.put, List.setIfInBounds_toArray, List.set_cons_zero, List.set_cons_succ])
      (refine wpAnyH_take (i := 1) (v := ?_) rfl (by kernel_rfl) (by kernel_rfl) (by kernel_rfl) (fun _ _ _ h => h) (Or.inl ⟨by rfl, ?_⟩) hHeld ?_; rotate_left; (intro w hSw; (obtain ⟨s0, s1, s2, s3, s4, s5⟩ := hCs _ hSw; clear hSw); (go_simp <;> with_reducible rfl)); simp only [List.getElem_toArray, List.getElem_cons_zero, List.getElem_cons_succ, Act.put, List.setIfInBounds_toArray, List.set_cons_zero, List.set_cons_succ])
      (refine wpAnyH_ready (rs := [2]) (by kernel_rfl) (by simp) ?_; refine AllReadyH.cons rfl (fun K hK => ?_) AllReadyH.nil; go_simp; (refine (toLap_calls s _ _ x1 x2 _ ((H1.out.later HK11.out.b).later hHeld) ((H2.out.later HK11.out.b).later hHeld) l1 l2).mono ?_; rintro e w12 ⟨g7, g8, rfl, ho12, hb12⟩; have hL12 := bthen hHeld hb12); refine hK.out _ _ ?_ (fun hHeld => ?_); (first | exact hL13 | exact hL12 | exact hL0); clear hK K; try dsimp only)
      (refine wpAnyH_ready (rs := [3]) (by kernel_rfl) (by simp) ?_; refine AllReadyH.cons rfl (fun K hK => ?_) AllReadyH.nil; go_simp; (refine (eqLap_calls s _ _ _ _ x1 x2 _ (HX11.out.h1.sl.later hL12) (HX11.out.h2.sl.later hL12) ho12.h1.sl ho12.h2.sl l1 l2).mono ?_; rintro e w13 ⟨rfl, hb13⟩; have hL13 := bthen hL12 hb13); refine hK.out _ _ ?_ (fun hHeld => ?_); (first | exact hL13 | exact hL12 | exact hL0); clear hK K; try dsimp only)
      (refine wpAnyH_take (i := 4) (v := ?_) rfl (by kernel_rfl) (by kernel_rfl) (by kernel_rfl) (fun _ _ _ h => h) (Or.inl ⟨by rfl, ?_⟩) hHeld ?_; rotate_left; (intro w hSw; (obtain ⟨s0, s1, s2, s3, s4, s5⟩ := hCs _ hSw; clear hSw); (go_simp <;> with_reducible rfl)); simp only [List.getElem_toArray, List.getElem_cons_zero, List.getElem_cons_succ, Act.put, List.setIfInBounds_toArray, List.set_cons_zero, List.set_cons_succ])
      refine wpAnyH_done (by kernel_rfl) ?_ _
      refine NoPanic.normal ?_
      have HK13 := hid (HK11.out.later hL13)
      have HX13 := hid (HX11.out.later hL13)
      clear hHeld hL0 hL12 hL13 ho12 hb12 hb13 HK11 HX11 p0 p1 p2 e0 e1 e2 hl0 hlX hCs
      go_wp2_with fail
      refine (toInt64S_calls _ x3 _ (H3.out.later HK13.out.b) l3).mono ?_
      rintro e w14 ⟨g9, rfl, ho14, hb14⟩
      have HK14 := hid (HK13.out.later hb14)
      have HX14 := hid (HX13.out.later hb14)
      have HO14 := hid ho14
      clear ho14 hb14 HK13 HX13
      go_wp2_with fail
      refine (eqInt64S_calls _ _ x3 _ HX14.out.h3.sl HO14.out.sl l3).mono ?_
      rintro e w15 ⟨rfl, hb15⟩
      have HK15 := hid (HK14.out.later hb15)
      have HX15 := hid (HX14.out.later hb15)
      clear hb15 HK14 HX14 HO14
      obtain ⟨e0, e1, e2, _⟩ := HK15.out.b2.three
      go_wp2_with fail
      refine (markLap_calls _ s _ _ x1 x2 _ 1 (HX15.out.sub (.cons_cons _ (.cons_cons _ (List.nil_sublist _)))) l1 l2 (by omega)).mono ?_
      rintro e w16 ⟨rfl, ho16, hg16⟩
      have HK16 := hid (HK15.out.on hg16 (fun j e => (HBX.out j e).1) (fun p hp => by
        intro e
        have he := HBX.out _ e
        rcases List.mem_cons.1 hp with rfl | hp
        · dsimp only at he; omega
        · rcases List.mem_cons.1 hp with rfl | hp
          · dsimp only at he; omega
          · rcases List.mem_cons.1 hp with rfl | hp
            · dsimp only at he; omega
            · rcases List.mem_cons.1 hp with rfl | hp
              · dsimp only at he; omega
              · cases hp) (HK15.out.og.on hg16 (fun j e e2 => by have h1 := HGB.out j e; have h2 := HBX.out j e2; omega)))
      have HY16 := hid (hg16.ow HX15.out.h3 (fun j e e2 => by have h2 := HBX.out j e2; simp [Value.ownBlock] at e; omega))
      obtain ⟨k2, hk2⟩ : ∃ k2 : Nat, 1 + x1.length + x2.length = k2 := ⟨_, rfl⟩
      rw [hk2] at hk12 ⊢
      clear ho16 hg16 HK15 HX15 e0 e1 e2 hk2 HBX
      go_wp2_with fail
      refine (markInt64S_calls _ _ x3 _ k2 HY16.out l3 (by omega)).mono ?_
      rintro e w17 ⟨rfl, ho17, hg17⟩
      have HK17 := hid (HK16.out.on (On.of_grown hg17) (fun j e => by simp [Value.ownBlock] at e; omega) (fun p hp => by
        intro e
        simp [Value.ownBlock] at e
        rcases List.mem_cons.1 hp with rfl | hp
        · dsimp only at e; omega
        · rcases List.mem_cons.1 hp with rfl | hp
          · dsimp only at e; omega
          · rcases List.mem_cons.1 hp with rfl | hp
            · dsimp only at e; omega
            · rcases List.mem_cons.1 hp with rfl | hp
              · dsimp only at e; omega
              · cases hp) (HK16.out.og.on (On.of_grown hg17) (fun j e e2 => by have h1 := HGB.out j e; simp [Value.ownBlock] at e2; omega)))
      obtain ⟨k3, hk3⟩ : ∃ k3 : Nat, k2 + x3.length = k3 := ⟨_, rfl⟩
      rw [hk3]
      have hk30 : ¬ (k3 : Int) < 0 := by omega
      clear ho17 hg17 HK16 HY16 hk3
      obtain ⟨q0, q1, q2, q3, q4, _⟩ := HK17.out.b1.five
      obtain ⟨r0, r1, r2, r3, r4, _⟩ := HK17.out.b3.five
      go_wp2_with fail
      refine (eqFeedResult_calls c r _ _ _ _ _ _ U V K _ HK17.out.og.h1.sl HK17.out.og.h2.sl HK17.out.og.h3.sl HK17.out.w0 HK17.out.w1 HK17.out.w2 yl1 yl2 yl3).mono ?_
      rintro e w18 ⟨rfl, hb18⟩
      have HK18 := hid (HK17.out.later hb18)
      clear hb18 HK17 q0 q1 q2 q3 q4 r0 r1 r2 r3 r4
      obtain ⟨r0, r1, r2, r3, r4, _⟩ := HK18.out.b3.five
      go_wp2_with fail
      refine (markFeedResult_calls _ c r _ _ _ U V K _ 1 HK18.out.og yl1 yl2 yl3 (by omega)).mono ?_
      rintro e w19 ⟨rfl, ho19, hg19⟩
      have HK19 := hid (HK18.out.on hg19 (fun j e => by have h1 := HGB.out j e; have h2 := HK18.out.ab; omega) (fun p hp => by
        intro e
        have he := HGB.out _ e
        rcases List.mem_cons.1 hp with rfl | hp
        · dsimp only at he; have h2 := HK18.out.ab; omega
        · rcases List.mem_cons.1 hp with rfl | hp
          · dsimp only at he; have h2 := HK18.out.ab; omega
          · rcases List.mem_cons.1 hp with rfl | hp
            · dsimp only at he; omega
            · rcases List.mem_cons.1 hp with rfl | hp
              · dsimp only at he; omega
              · cases hp) ho19)
      obtain ⟨M, hM⟩ : ∃ M : Nat, 1 + U.length + V.length + K.length = M := ⟨_, rfl⟩
      have HM := hid hM
      rw [hM]
      have hM0 : ¬ (M : Int) < 0 := by omega
      have hMM : ((M : Int) != (M : Int)) = false := by simp
      clear ho19 hg19 HK18 r0 r1 r2 r3 r4 hM
      obtain ⟨r0, r1, r2, r3, r4, _⟩ := HK19.out.b3.five
      go_wp2_with fail
      refine (heldFeedResult_calls c r _ _ _ U.length V.length K.length _ 1 HK19.out.og.h1.sl HK19.out.og.h2.sl HK19.out.og.h3.sl yl1 yl2 yl3 (by omega)).mono ?_
      rintro e w20 ⟨rfl, hb20⟩
      have HK20 := hid (HK19.out.later hb20)
      rw [HM.out]
      clear hb20 HK19 r0 r1 r2 r3 r4
      obtain ⟨p0, p1, p2, _⟩ := HK20.out.b0.three
      go_wp2_with fail
      refine (toLap_calls s _ _ x1 x2 _ (H1.out.later HK20.out.b) (H2.out.later HK20.out.b) l1 l2).mono ?_
      rintro e w21 ⟨g10, g11, rfl, ho21, hb21⟩
      have HK21 := hid (HK20.out.later hb21)
      have HO21 := hid ho21
      clear ho21 hb21 HK20 p0 p1 p2
      go_wp2_with fail
      refine (toInt64S_calls _ x3 _ (H3.out.later HK21.out.b) l3).mono ?_
      rintro e w22 ⟨g12, rfl, ho22, hb22⟩
      have HK22 := hid (HK21.out.later hb22)
      have HO22 := hid (HO21.out.later hb22)
      have HT22 := hid ho22
      clear ho22 hb22 HK21 HO21
      go_wp2_with fail
      refine (HIx.out _ HK22.out.b _ _ _ HO22.out.h1.sl HO22.out.h2.sl HT22.out.sl (Nat.le_refl _) (Nat.le_refl _) (Nat.le_refl _)).mono ?_
      rintro e w23 ⟨v1, v2, v3, rfl, ho23, hb23⟩
      obtain ⟨a7, c7, rfl, -⟩ := ho23.h1.sl
      obtain ⟨a8, c8, rfl, -⟩ := ho23.h2.sl
      obtain ⟨a9, c9, rfl, -⟩ := ho23.h3.sl
      have HK23 := hid (HK22.out.later hb23)
      have ha := bmore (Below.refl w23.heap.size w23) (.cells #[.int .i64 c, .int .i64 r, .slice a7 U.length c7, .slice a8 V.length c8, .slice a9 K.length c9] 41)
      have HK24 := hid (HK23.out.later ha)
      have HO24 := hid (ho23.later ha)
      obtain ⟨q0, q1, q2, q3, q4, _⟩ := HK23.out.b1.five
      have hltA := HK23.out.b1.lt
      clear ho23 hb23 ha HK22 HO22 HT22 HK23 HIx
      go_wp2_with fail
      refine (eqFeedResult_calls c r _ _ _ _ _ _ U V K _ HO24.out.h1.sl HO24.out.h2.sl HO24.out.h3.sl HK24.out.w0 HK24.out.w1 HK24.out.w2 yl1 yl2 yl3).mono ?_
      rintro e w25 ⟨rfl, hb25⟩
      have HK25 := hid (HK24.out.later hb25)
      clear hb25 HK24 HO24 q0 q1 q2 q3 q4 hltA
      obtain ⟨r0, r1, r2, r3, r4, _⟩ := HK25.out.b3.five
      go_wp2_with fail
      refine (heldFeedResult_calls c r _ _ _ U.length V.length K.length _ 1 HK25.out.og.h1.sl HK25.out.og.h2.sl HK25.out.og.h3.sl yl1 yl2 yl3 (by omega)).mono ?_
      rintro e w26 ⟨rfl, hb26⟩
      have HL := hid (bthen HK25.out.b hb26)
      rw [HM.out]
      clear hb26 HK25 r0 r1 r2 r3 r4
      go_wp2
      go_ret
      exact ⟨rfl, HL.out⟩
    · rw [szV_no hbig] at HZ
      clear hbig HI
      go_enter Tryd.func5, Tryd.ntmps5
      go_wp2_with fail
      refine (HZ.out _).mono ?_
      rintro e w1 ⟨rfl, hb⟩
      have HL := hid (bthen HP.out.l hb)
      clear hb HP p0 p1 p2 HZ
      go_wp2
      go_ret
      exact ⟨rfl, HL.out⟩
set_option maxRecDepth 100000 in
set_option maxHeartbeats 4000000 in
theorem exactPlayBlock_calls (s : Int) (a1 a2 : Option Addr) (c1 c2 : Nat) (x1 x2 : List Int) (a3 : Option Addr) (c3 : Nat) (x3 : List Int) (w : World) (h1 : Sl .i64 w (.slice a1 x1.length c1) x1) (h2 : Sl .i64 w (.slice a2 x2.length c2) x2) (h3 : Sl .i64 w (.slice a3 x3.length c3) x3) (m1 : x1.length ≤ maxLen) (m2 : x2.length ≤ maxLen)
    (HI0 : ∀ (s : Int) (v1 v2 v3 : Value) (x1 x2 x3 : List Int) (W : World), Below w.heap.size w W → Sl .i64 W v1 x1 → Sl .i64 W v2 x2 → Sl .i64 W v3 x3 → Fits v1 → Fits v2 → Fits v3 → x1.length ≤ 1048576 → x2.length ≤ 1048576 → x3.length ≤ 1048576 → Calls Tryd.prog 14 #[.agg #[.int .i64 s, v1, v2], v3] W fun e w' => ∃ u t k, e = .returned (.agg #[.int .i64 (plC s x1 x2 x3), .int .i64 (plS s x1 x2 x3), u, t, k]) ∧ OWS W.heap.size w' [(u, plU s x1 x2 x3), (t, plV s x1 x2 x3), (k, plW s x1 x2 x3)] ∧ Below W.heap.size W w') :
    Calls Tryd.prog 6 #[.agg #[.int .i64 s, .slice a1 x1.length c1, .slice a2 x2.length c2], .slice a3 x3.length c3] w fun e w' => e = .returned (.bool true) ∧ Below w.heap.size w w' := by
  by_cases hbig3 : 1048576 < x3.length
  · have hb' : (1048576 : Int) < x3.length := by omega
    clear HI0 h1 h2 h3
    go_enter Tryd.func6, Tryd.ntmps6
    go_wp2
    go_ret
    exact ⟨rfl, bmore (Below.refl _ _) _⟩
  · have hb' : (x3.length : Int) ≤ 1048576 := by omega
    have l3 : x3.length ≤ 1048576 := by omega
    have HI := hid HI0
    have HP := hid (PL.new s 66 h1 h2)
    have H1 := hid h1
    have H2 := hid h2
    have H3 := hid h3
    have HZ := hid (fun W => szSynth_calls s 1048576 a1 a2 x1.length x2.length c1 c2 W m1 m2 (by omega) (by omega))
    clear HI0 h1 h2 h3 m1 m2 hbig3
    obtain ⟨p0, p1, p2, _⟩ := HP.out.p.three
    by_cases hbig : ((x1.length + x2.length : Nat) : Int) ≤ 1048576
    · rw [szV_yes hbig] at HZ
      have l1 : x1.length ≤ 1048576 := by omega
      have l2 : x2.length ≤ 1048576 := by omega
      have hz : 0 ≤ 1048576 - ((x1.length + x2.length : Nat) : Int) := by omega
      obtain ⟨y1, y2, y3⟩ := pl_lens s x1 x2 x3
      have HS := hid (fun W v1 v2 v3 (q1 : Sl .i64 W v1 x1) (q2 : Sl .i64 W v2 x2) (q3 : Sl .i64 W v3 x3) (q4 : Fits v3) => play_sl s v1 v2 v3 x1 x2 x3 W q1 q2 q3 l1 l2 l3)
      have HIx := hid (fun W (hW : Below w.heap.size w W) v1 v2 v3 (q1 : Sl .i64 W v1 x1) (q2 : Sl .i64 W v2 x2) (q3 : Sl .i64 W v3 x3) (f1 : Fits v1) (f2 : Fits v2) (f3 : Fits v3) => HI.out s v1 v2 v3 x1 x2 x3 W hW q1 q2 q3 f1 f2 f3 l1 l2 l3)
      have hk12 : 1 + x1.length + x2.length ≤ 5000000 := by omega
      clear hbig HI
      generalize 1048576 - ((x1.length + x2.length : Nat) : Int) = z at *
      generalize plC s x1 x2 x3 = c at *
      generalize plS s x1 x2 x3 = r at *
      generalize plU s x1 x2 x3 = U at *
      generalize plV s x1 x2 x3 = V at *
      generalize plW s x1 x2 x3 = K at *
      have yl1 : U.length ≤ 1048576 := by omega
      have yl2 : V.length ≤ 1048576 := by omega
      have yl3 : K.length ≤ 1048576 := by omega
      go_enter Tryd.func6, Tryd.ntmps6
      go_wp2_with fail
      refine (HZ.out _).mono ?_
      rintro e w1 ⟨rfl, hb⟩
      have HP1 := hid (HP.out.later hb)
      clear hb HP p0 p1 p2 HZ
      obtain ⟨p0, p1, p2, _⟩ := HP1.out.p.three
      go_wp2_with fail
      refine (toSynth_calls s _ _ x1 x2 _ HP1.out.s1 HP1.out.s2 l1 l2).mono ?_
      rintro e w2 ⟨g1, g2, rfl, ho2, hb⟩
      have HP2 := hid (HP1.out.later hb)
      have HO2 := hid ho2
      clear hb HP1 p0 p1 p2 ho2
      go_wp2_with fail
      refine (toInt64S_calls _ x3 _ (H3.out.later HP2.out.l) l3).mono ?_
      rintro e w3 ⟨g3, rfl, ho3, hb⟩
      have HP3 := hid (HP2.out.later hb)
      have HO3 := hid (HO2.out.later hb)
      have HT3 := hid ho3
      clear hb HP2 HO2 ho3
      go_wp2_with fail
      refine (HS.out _ _ _ _ HO3.out.h1.sl HO3.out.h2.sl HT3.out.sl (Nat.le_refl _)).mono ?_
      rintro e w4 ⟨u, t, k, rfl, hu, ht, hk, hb⟩
      have HP4 := hid (HP3.out.later hb)
      obtain ⟨au, cu, rfl, -⟩ := id hu
      obtain ⟨at', ct, rfl, -⟩ := id ht
      obtain ⟨ak, ck, rfl, -⟩ := id hk
      have ha := bmore (Below.refl w4.heap.size w4) (.cells #[.int .i64 c, .int .i64 r, .slice au U.length cu, .slice at' V.length ct, .slice ak K.length ck] 48)
      have HU := hid (hu.later ha)
      have HV := hid (ht.later ha)
      have HK := hid (hk.later ha)
      have HPW := hid (Blk.new w4 #[.int .i64 c, .int .i64 r, .slice au U.length cu, .slice at' V.length ct, .slice ak K.length ck] 48)
      have HP5 := hid (HP4.out.later ha)
      have hP4 := HP4.out.p.lt
      obtain ⟨p0, p1, p2, _⟩ := HP4.out.p.three
      have hszA : (w4.alloc (.cells #[.int .i64 c, .int .i64 r, .slice au U.length cu, .slice at' V.length ct, .slice ak K.length ck] 48)).heap.size = w4.heap.size + 1 := World.size_alloc _ _
      clear hb HP3 HO3 HT3 hu ht hk ha HP4 HS
      go_wp2_with fail
      generalize (w4.alloc (.cells #[.int .i64 c, .int .i64 r, .slice au U.length cu, .slice at' V.length ct, .slice ak K.length ck] 48)) = w5 at *
      clear p0 p1 p2
      refine (toSynth_calls s _ _ x1 x2 _ HP5.out.s1 HP5.out.s2 l1 l2).mono ?_
      rintro e w6 ⟨g4, g5, rfl, ho6, hb⟩
      have ha := bmore (Below.refl w6.heap.size w6) (.cells #[.int .i64 s, .slice (some ⟨g4, 0, none⟩) x1.length x1.length, .slice (some ⟨g5, 0, none⟩) x2.length x2.length] 34)
      have hbb := bthen hb ha
      have hbk6 : ∀ j, Ob [.slice (some ⟨g4, 0, none⟩) x1.length x1.length, .slice (some ⟨g5, 0, none⟩) x2.length x2.length] j → w5.heap.size + 1 ≤ j ∧ j < w6.heap.size := fun j e => ho6.blocks e
      have HBK6 := hid hbk6
      have HO6 := hid (ho6.later ha)
      have HPX := hid (Blk.new w6 #[.int .i64 s, .slice (some ⟨g4, 0, none⟩) x1.length x1.length, .slice (some ⟨g5, 0, none⟩) x2.length x2.length] 34)
      have HP7 := hid (HP5.out.later hbb)
      have HPW7 := hid (HPW.out.later hbb)
      have HB57 := hid hbb
      have hsz6 := hb.size
      have hszX : (w6.alloc (.cells #[.int .i64 s, .slice (some ⟨g4, 0, none⟩) x1.length x1.length, .slice (some ⟨g5, 0, none⟩) x2.length x2.length] 34)).heap.size = w6.heap.size + 1 := World.size_alloc _ _
      clear hb ha hbb ho6 hbk6 HP5 HPW
      go_wp2_with fail
      generalize (w6.alloc (.cells #[.int .i64 s, .slice (some ⟨g4, 0, none⟩) x1.length x1.length, .slice (some ⟨g5, 0, none⟩) x2.length x2.length] 34)) = w7 at *
      refine (toInt64S_calls _ x3 _ (H3.out.later HP7.out.l) l3).mono ?_
      rintro e w8 ⟨g6, rfl, ho8, hb⟩
      have hg6 := ho8.block g6 rfl
      have HP8 := hid (HP7.out.later hb)
      have HPW8 := hid (HPW7.out.later hb)
      have HPX8 := hid (HPX.out.later hb)
      have HB58 := hid (bthen HB57.out hb)
      have hsz8 := hb.size
      have HX8 : Hid (OWS (w5.heap.size + 1) w8 [(.slice (some ⟨g4, 0, none⟩) x1.length x1.length, x1), (.slice (some ⟨g5, 0, none⟩) x2.length x2.length, x2), (.slice (some ⟨g6, 0, none⟩) x3.length x3.length, x3)]) := by
        refine OWS.three (HO6.out.later hb) (App.Ow.mono ho8 (by omega)) (fun g e1 e2 => ?_) (fun g e1 e2 => ?_)
        · have h1 := HBK6.out g ⟨_, List.mem_cons_self .., e1⟩; simp [Value.ownBlock] at e2; omega
        · have h1 := HBK6.out g ⟨_, List.mem_cons_of_mem _ (List.mem_cons_self ..), e1⟩; simp [Value.ownBlock] at e2; omega
      clear hb ho8 HP7 HPW7 HPX HB57 HO6
      obtain ⟨x0', x1', x2', _⟩ := HPX8.out.three
      go_wp2_with fail
      refine (HIx.out _ HP8.out.l _ _ _ HX8.out.h1.sl HX8.out.h2.sl HX8.out.h3.sl (Nat.le_refl _) (Nat.le_refl _) (Nat.le_refl _)).mono ?_
      rintro e w9 ⟨v1, v2, v3, rfl, ho9, hb9⟩
      obtain ⟨av, cv, rfl, -⟩ := ho9.h1.sl
      obtain ⟨ax, cx, rfl, -⟩ := ho9.h2.sl
      obtain ⟨ay, cy, rfl, -⟩ := ho9.h3.sl
      have ha := bmore (Below.refl w9.heap.size w9) (.cells #[.int .i64 c, .int .i64 r, .slice av U.length cv, .slice ax V.length cx, .slice ay K.length cy] 48)
      have hbb := bthen hb9 ha
      have hK : KX w [(w.heap.size, #[.int .i64 s, .slice a1 x1.length c1, .slice a2 x2.length c2], 66), (w4.heap.size, #[.int .i64 c, .int .i64 r, .slice au U.length cu, .slice at' V.length ct, .slice ak K.length ck], 48), (w6.heap.size, #[.int .i64 s, .slice (some ⟨g4, 0, none⟩) x1.length x1.length, .slice (some ⟨g5, 0, none⟩) x2.length x2.length], 34), (w9.heap.size, #[.int .i64 c, .int .i64 r, .slice av U.length cv, .slice ax V.length cx, .slice ay K.length cy], 48)] w5.heap.size w8.heap.size [(.slice au U.length cu, U), (.slice at' V.length ct, V), (.slice ak K.length ck, K)] [(.slice av U.length cv, U), (.slice ax V.length cx, V), (.slice ay K.length cy, K)] (w9.alloc (.cells #[.int .i64 c, .int .i64 r, .slice av U.length cv, .slice ax V.length cx, .slice ay K.length cy] 48)) := by
        have h58 := HB58.out.trans (hbb.mono HB58.out.size)
        refine ⟨fun p hp => ?_, fun p hp => ?_, ho9.later ha, HB58.out.size, hbb.size, by omega, bthen HP8.out.l hbb⟩
        · rcases List.mem_cons.1 hp with rfl | hp
          · exact HP8.out.p.later hbb
          · rcases List.mem_cons.1 hp with rfl | hp
            · exact HPW8.out.later hbb
            · rcases List.mem_cons.1 hp with rfl | hp
              · exact HPX8.out.later hbb
              · rcases List.mem_cons.1 hp with rfl | hp
                · exact Blk.new _ _ _
                · cases hp
        · rcases List.mem_cons.1 hp with rfl | hp
          · exact (Sb.of HU.out).keep h58
          · rcases List.mem_cons.1 hp with rfl | hp
            · exact (Sb.of HV.out).keep h58
            · rcases List.mem_cons.1 hp with rfl | hp
              · exact (Sb.of HK.out).keep h58
              · cases hp
      have HGB : Hid (∀ j, Ob [.slice av U.length cv, .slice ax V.length cx, .slice ay K.length cy] j → w8.heap.size ≤ j ∧ j < w9.heap.size) := fun j e => ho9.blocks e
      have HKK := hid hK
      have HX10 := hid ((HX8.out.later hb9).later ha)
      have hsz9 := hb9.size
      obtain ⟨q0, q1, q2, q3, q4, _⟩ := (HPW8.out.later hb9).five
      have hlt9 := (HPW8.out.later hb9).lt
      clear ho9 hb9 ha hbb hK HP8 HPW8 HPX8 HB58 HX8 HU HV HK x0' x1' x2'
      go_wp2_with fail
      refine (eqPlayResult_calls c r _ _ _ _ _ _ U V K _ HKK.out.og.h1.sl HKK.out.og.h2.sl HKK.out.og.h3.sl HKK.out.w0 HKK.out.w1 HKK.out.w2 yl1 yl2 yl3).mono ?_
      rintro e w11 ⟨rfl, hb⟩
      have hHK : KX w [(w.heap.size, #[.int .i64 s, .slice a1 x1.length c1, .slice a2 x2.length c2], 66), (w4.heap.size, #[.int .i64 c, .int .i64 r, .slice au U.length cu, .slice at' V.length ct, .slice ak K.length ck], 48), (w6.heap.size, #[.int .i64 s, .slice (some ⟨g4, 0, none⟩) x1.length x1.length, .slice (some ⟨g5, 0, none⟩) x2.length x2.length], 34), (w9.heap.size, #[.int .i64 c, .int .i64 r, .slice av U.length cv, .slice ax V.length cx, .slice ay K.length cy], 48)] w5.heap.size w8.heap.size [(.slice au U.length cu, U), (.slice at' V.length ct, V), (.slice ak K.length ck, K)] [(.slice av U.length cv, U), (.slice ax V.length cx, V), (.slice ay K.length cy, K)] w11 := HKK.out.later hb
      have HX11 := hid (HX10.out.later hb)
      clear hb HKK HX10 q0 q1 q2 q3 q4 hlt9
      have HK11 := hid hHK
      clear hHK
      have hloA := HK11.out.lo
      obtain ⟨p0, p1, p2, _⟩ := HK11.out.b0.three
      obtain ⟨e0, e1, e2, _⟩ := HK11.out.b2.three
      have hl0 := HK11.out.b0.lt
      have hlX := HK11.out.b2.lt
      have hL0 : Below w11.heap.size w11 w11.drew := (Below.refl _ _).drew
      have hCs : ∀ W, Below w11.heap.size w11 W → W.cell? ⟨w.heap.size, 0, none⟩ = some (.int .i64 s) ∧ W.cell? ⟨w.heap.size, 1, none⟩ = some (.slice a1 x1.length c1) ∧ W.cell? ⟨w.heap.size, 2, none⟩ = some (.slice a2 x2.length c2) ∧ W.cell? ⟨w6.heap.size, 0, none⟩ = some (.int .i64 s) ∧ W.cell? ⟨w6.heap.size, 1, none⟩ = some (.slice (some ⟨g4, 0, none⟩) x1.length x1.length) ∧ W.cell? ⟨w6.heap.size, 2, none⟩ = some (.slice (some ⟨g5, 0, none⟩) x2.length x2.length) :=
        fun W h => ⟨(h.cell (p := ⟨w.heap.size, 0, none⟩) hl0).trans p0, (h.cell (p := ⟨w.heap.size, 1, none⟩) hl0).trans p1, (h.cell (p := ⟨w.heap.size, 2, none⟩) hl0).trans p2, (h.cell (p := ⟨w6.heap.size, 0, none⟩) hlX).trans e0, (h.cell (p := ⟨w6.heap.size, 1, none⟩) hlX).trans e1, (h.cell (p := ⟨w6.heap.size, 2, none⟩) hlX).trans e2⟩
      have HBX : Hid (∀ j, Ob [.slice (some ⟨g4, 0, none⟩) x1.length x1.length, .slice (some ⟨g5, 0, none⟩) x2.length x2.length] j → w5.heap.size ≤ j ∧ j < w6.heap.size) := fun j e => by have := HBK6.out j e; omega
      have HBY : w6.heap.size < g6 ∧ g6 < w8.heap.size := by omega
      clear HBK6 hg6
      generalize w4.heap.size = A0 at *
      generalize w5.heap.size = A at *
      generalize w6.heap.size = X at *
      generalize w7.heap.size = X1 at *
      generalize w8.heap.size = B at *
      generalize w9.heap.size = G at *
      go_wp2_with fail
      refine wp_region_noPanic ?_
      refine wp_region_held_drew (S := fun W => Below w11.heap.size w11 W) (by kernel_rfl) ?_ (fun hHeld => ?_)
      · first | exact hL13 | exact hL12 | exact hL0
      (refine wpAnyH_take (i := 0) (v := ?_) rfl (by kernel_rfl) (by kernel_rfl) (by kernel_rfl) (fun _ _ _ h => h) (Or.inl ⟨by rfl, ?_⟩) hHeld ?_; rotate_left; (intro w hSw; (obtain ⟨s0, s1, s2, s3, s4, s5⟩ := hCs _ hSw; clear hSw); (go_simp <;> with_reducible rfl)); simp only [List.getElem_toArray, List.getElem_cons_zero, Act.put, List.setIfInBounds_toArray, List.set_cons_zero, List.set_cons_succ])
      (refine wpAnyH_take (i := 1) (v := ?_) rfl (by kernel_rfl) (by kernel_rfl) (by kernel_rfl) (fun _ _ _ h => h) (Or.inl ⟨by rfl, ?_⟩) hHeld ?_; rotate_left; (intro w hSw; (obtain ⟨s0, s1, s2, s3, s4, s5⟩ := hCs _ hSw; clear hSw); (go_simp <;> with_reducible rfl)); simp only [List.getElem_toArray, List.getElem_cons_zero, List.getElem_cons_succ, Act.put, List.setIfInBounds_toArray, List.set_cons_zero, List.set_cons_succ])
      (refine wpAnyH_ready (rs := [2]) (by kernel_rfl) (by simp) ?_; refine AllReadyH.cons rfl (fun K hK => ?_) AllReadyH.nil; go_simp; (refine (toSynth_calls s _ _ x1 x2 _ ((H1.out.later HK11.out.b).later hHeld) ((H2.out.later HK11.out.b).later hHeld) l1 l2).mono ?_; rintro e w12 ⟨g7, g8, rfl, ho12, hb12⟩; have hL12 := bthen hHeld hb12); refine hK.out _ _ ?_ (fun hHeld => ?_); (first | exact hL13 | exact hL12 | exact hL0); clear hK K; try dsimp only)
      (refine wpAnyH_ready (rs := [3]) (by kernel_rfl) (by simp) ?_; refine AllReadyH.cons rfl (fun K hK => ?_) AllReadyH.nil; go_simp; (refine (eqSynth_calls s _ _ _ _ x1 x2 _ (HX11.out.h1.sl.later hL12) (HX11.out.h2.sl.later hL12) ho12.h1.sl ho12.h2.sl l1 l2).mono ?_; rintro e w13 ⟨rfl, hb13⟩; have hL13 := bthen hL12 hb13); refine hK.out _ _ ?_ (fun hHeld => ?_); (first | exact hL13 | exact hL12 | exact hL0); clear hK K; try dsimp only)
      (refine wpAnyH_take (i := 4) (v := ?_) rfl (by kernel_rfl) (by kernel_rfl) (by kernel_rfl) (fun _ _ _ h => h) (Or.inl ⟨by rfl, ?_⟩) hHeld ?_; rotate_left; (intro w hSw; (obtain ⟨s0, s1, s2, s3, s4, s5⟩ := hCs _ hSw; clear hSw); (go_simp <;> with_reducible rfl)); simp only [List.getElem_toArray, List.getElem_cons_zero, List.getElem_cons_succ, Act.put, List.setIfInBounds_toArray, List.set_cons_zero, List.set_cons_succ])
      refine wpAnyH_done (by kernel_rfl) ?_ _
      refine NoPanic.normal ?_
      have HK13 := hid (HK11.out.later hL13)
      have HX13 := hid (HX11.out.later hL13)
      clear hHeld hL0 hL12 hL13 ho12 hb12 hb13 HK11 HX11 p0 p1 p2 e0 e1 e2 hl0 hlX hCs
      go_wp2_with fail
      refine (toInt64S_calls _ x3 _ (H3.out.later HK13.out.b) l3).mono ?_
      rintro e w14 ⟨g9, rfl, ho14, hb14⟩
      have HK14 := hid (HK13.out.later hb14)
      have HX14 := hid (HX13.out.later hb14)
      have HO14 := hid ho14
      clear ho14 hb14 HK13 HX13
      go_wp2_with fail
      refine (eqInt64S_calls _ _ x3 _ HX14.out.h3.sl HO14.out.sl l3).mono ?_
      rintro e w15 ⟨rfl, hb15⟩
      have HK15 := hid (HK14.out.later hb15)
      have HX15 := hid (HX14.out.later hb15)
      clear hb15 HK14 HX14 HO14
      obtain ⟨e0, e1, e2, _⟩ := HK15.out.b2.three
      go_wp2_with fail
      refine (markSynth_calls _ s _ _ x1 x2 _ 1 (HX15.out.sub (.cons_cons _ (.cons_cons _ (List.nil_sublist _)))) l1 l2 (by omega)).mono ?_
      rintro e w16 ⟨rfl, ho16, hg16⟩
      have HK16 := hid (HK15.out.on hg16 (fun j e => (HBX.out j e).1) (fun p hp => by
        intro e
        have he := HBX.out _ e
        rcases List.mem_cons.1 hp with rfl | hp
        · dsimp only at he; omega
        · rcases List.mem_cons.1 hp with rfl | hp
          · dsimp only at he; omega
          · rcases List.mem_cons.1 hp with rfl | hp
            · dsimp only at he; omega
            · rcases List.mem_cons.1 hp with rfl | hp
              · dsimp only at he; omega
              · cases hp) (HK15.out.og.on hg16 (fun j e e2 => by have h1 := HGB.out j e; have h2 := HBX.out j e2; omega)))
      have HY16 := hid (hg16.ow HX15.out.h3 (fun j e e2 => by have h2 := HBX.out j e2; simp [Value.ownBlock] at e; omega))
      obtain ⟨k2, hk2⟩ : ∃ k2 : Nat, 1 + x1.length + x2.length = k2 := ⟨_, rfl⟩
      rw [hk2] at hk12 ⊢
      clear ho16 hg16 HK15 HX15 e0 e1 e2 hk2 HBX
      go_wp2_with fail
      refine (markInt64S_calls _ _ x3 _ k2 HY16.out l3 (by omega)).mono ?_
      rintro e w17 ⟨rfl, ho17, hg17⟩
      have HK17 := hid (HK16.out.on (On.of_grown hg17) (fun j e => by simp [Value.ownBlock] at e; omega) (fun p hp => by
        intro e
        simp [Value.ownBlock] at e
        rcases List.mem_cons.1 hp with rfl | hp
        · dsimp only at e; omega
        · rcases List.mem_cons.1 hp with rfl | hp
          · dsimp only at e; omega
          · rcases List.mem_cons.1 hp with rfl | hp
            · dsimp only at e; omega
            · rcases List.mem_cons.1 hp with rfl | hp
              · dsimp only at e; omega
              · cases hp) (HK16.out.og.on (On.of_grown hg17) (fun j e e2 => by have h1 := HGB.out j e; simp [Value.ownBlock] at e2; omega)))
      obtain ⟨k3, hk3⟩ : ∃ k3 : Nat, k2 + x3.length = k3 := ⟨_, rfl⟩
      rw [hk3]
      have hk30 : ¬ (k3 : Int) < 0 := by omega
      clear ho17 hg17 HK16 HY16 hk3
      obtain ⟨q0, q1, q2, q3, q4, _⟩ := HK17.out.b1.five
      obtain ⟨r0, r1, r2, r3, r4, _⟩ := HK17.out.b3.five
      go_wp2_with fail
      refine (eqPlayResult_calls c r _ _ _ _ _ _ U V K _ HK17.out.og.h1.sl HK17.out.og.h2.sl HK17.out.og.h3.sl HK17.out.w0 HK17.out.w1 HK17.out.w2 yl1 yl2 yl3).mono ?_
      rintro e w18 ⟨rfl, hb18⟩
      have HK18 := hid (HK17.out.later hb18)
      clear hb18 HK17 q0 q1 q2 q3 q4 r0 r1 r2 r3 r4
      obtain ⟨r0, r1, r2, r3, r4, _⟩ := HK18.out.b3.five
      go_wp2_with fail
      refine (markPlayResult_calls _ c r _ _ _ U V K _ 1 HK18.out.og yl1 yl2 yl3 (by omega)).mono ?_
      rintro e w19 ⟨rfl, ho19, hg19⟩
      have HK19 := hid (HK18.out.on hg19 (fun j e => by have h1 := HGB.out j e; have h2 := HK18.out.ab; omega) (fun p hp => by
        intro e
        have he := HGB.out _ e
        rcases List.mem_cons.1 hp with rfl | hp
        · dsimp only at he; have h2 := HK18.out.ab; omega
        · rcases List.mem_cons.1 hp with rfl | hp
          · dsimp only at he; have h2 := HK18.out.ab; omega
          · rcases List.mem_cons.1 hp with rfl | hp
            · dsimp only at he; omega
            · rcases List.mem_cons.1 hp with rfl | hp
              · dsimp only at he; omega
              · cases hp) ho19)
      obtain ⟨M, hM⟩ : ∃ M : Nat, 1 + U.length + V.length + K.length = M := ⟨_, rfl⟩
      have HM := hid hM
      rw [hM]
      have hM0 : ¬ (M : Int) < 0 := by omega
      have hMM : ((M : Int) != (M : Int)) = false := by simp
      clear ho19 hg19 HK18 r0 r1 r2 r3 r4 hM
      obtain ⟨r0, r1, r2, r3, r4, _⟩ := HK19.out.b3.five
      go_wp2_with fail
      refine (heldPlayResult_calls c r _ _ _ U.length V.length K.length _ 1 HK19.out.og.h1.sl HK19.out.og.h2.sl HK19.out.og.h3.sl yl1 yl2 yl3 (by omega)).mono ?_
      rintro e w20 ⟨rfl, hb20⟩
      have HK20 := hid (HK19.out.later hb20)
      rw [HM.out]
      clear hb20 HK19 r0 r1 r2 r3 r4
      obtain ⟨p0, p1, p2, _⟩ := HK20.out.b0.three
      go_wp2_with fail
      refine (toSynth_calls s _ _ x1 x2 _ (H1.out.later HK20.out.b) (H2.out.later HK20.out.b) l1 l2).mono ?_
      rintro e w21 ⟨g10, g11, rfl, ho21, hb21⟩
      have HK21 := hid (HK20.out.later hb21)
      have HO21 := hid ho21
      clear ho21 hb21 HK20 p0 p1 p2
      go_wp2_with fail
      refine (toInt64S_calls _ x3 _ (H3.out.later HK21.out.b) l3).mono ?_
      rintro e w22 ⟨g12, rfl, ho22, hb22⟩
      have HK22 := hid (HK21.out.later hb22)
      have HO22 := hid (HO21.out.later hb22)
      have HT22 := hid ho22
      clear ho22 hb22 HK21 HO21
      go_wp2_with fail
      refine (HIx.out _ HK22.out.b _ _ _ HO22.out.h1.sl HO22.out.h2.sl HT22.out.sl (Nat.le_refl _) (Nat.le_refl _) (Nat.le_refl _)).mono ?_
      rintro e w23 ⟨v1, v2, v3, rfl, ho23, hb23⟩
      obtain ⟨a7, c7, rfl, -⟩ := ho23.h1.sl
      obtain ⟨a8, c8, rfl, -⟩ := ho23.h2.sl
      obtain ⟨a9, c9, rfl, -⟩ := ho23.h3.sl
      have HK23 := hid (HK22.out.later hb23)
      have ha := bmore (Below.refl w23.heap.size w23) (.cells #[.int .i64 c, .int .i64 r, .slice a7 U.length c7, .slice a8 V.length c8, .slice a9 K.length c9] 48)
      have HK24 := hid (HK23.out.later ha)
      have HO24 := hid (ho23.later ha)
      obtain ⟨q0, q1, q2, q3, q4, _⟩ := HK23.out.b1.five
      have hltA := HK23.out.b1.lt
      clear ho23 hb23 ha HK22 HO22 HT22 HK23 HIx
      go_wp2_with fail
      refine (eqPlayResult_calls c r _ _ _ _ _ _ U V K _ HO24.out.h1.sl HO24.out.h2.sl HO24.out.h3.sl HK24.out.w0 HK24.out.w1 HK24.out.w2 yl1 yl2 yl3).mono ?_
      rintro e w25 ⟨rfl, hb25⟩
      have HK25 := hid (HK24.out.later hb25)
      clear hb25 HK24 HO24 q0 q1 q2 q3 q4 hltA
      obtain ⟨r0, r1, r2, r3, r4, _⟩ := HK25.out.b3.five
      go_wp2_with fail
      refine (heldPlayResult_calls c r _ _ _ U.length V.length K.length _ 1 HK25.out.og.h1.sl HK25.out.og.h2.sl HK25.out.og.h3.sl yl1 yl2 yl3 (by omega)).mono ?_
      rintro e w26 ⟨rfl, hb26⟩
      have HL := hid (bthen HK25.out.b hb26)
      rw [HM.out]
      clear hb26 HK25 r0 r1 r2 r3 r4
      go_wp2
      go_ret
      exact ⟨rfl, HL.out⟩
    · rw [szV_no hbig] at HZ
      clear hbig HI
      go_enter Tryd.func6, Tryd.ntmps6
      go_wp2_with fail
      refine (HZ.out _).mono ?_
      rintro e w1 ⟨rfl, hb⟩
      have HL := hid (bthen HP.out.l hb)
      clear hb HP p0 p1 p2 HZ
      go_wp2
      go_ret
      exact ⟨rfl, HL.out⟩
end Go.Proofs.YtgnbailcibhenaaDoor.ExFd
