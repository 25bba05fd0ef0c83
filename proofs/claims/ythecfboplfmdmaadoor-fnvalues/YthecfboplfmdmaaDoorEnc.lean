/- The program's EncodeSlots and CostOf. -/
import Derived.Test.YthecfboplfmdmaaDoorEnd
import Derived.Test.YthecfboplfmdmaaDoorSlS
namespace Go.Proofs.YthecfboplfmdmaaDoor.Enc
open Go.ChangeShapes Go.WideShapes Go.ChangeAt Go.RowKit Go.Proofs.YthecfboplfmdmaaDoor.Num Go.Proofs.YthecfboplfmdmaaDoor.Sli Go.Proofs.YthecfboplfmdmaaDoor.App Go.Proofs.YthecfboplfmdmaaDoor.Byt Go.Proofs.YthecfboplfmdmaaDoor.CrcM Go.Proofs.YthecfboplfmdmaaDoor.Str Go.Proofs.YthecfboplfmdmaaDoor.Div Go.Proofs.YthecfboplfmdmaaDoor.Dec Go.Proofs.YthecfboplfmdmaaDoor.Blk Go.Proofs.YthecfboplfmdmaaDoor.Nxt Go.Proofs.YthecfboplfmdmaaDoor.Byte Go.Proofs.YthecfboplfmdmaaDoor.TakS Go.Proofs.YthecfboplfmdmaaDoor.TakT Go.Proofs.YthecfboplfmdmaaDoor.RngF Go.Proofs.YthecfboplfmdmaaDoor.RndF Go.Proofs.YthecfboplfmdmaaDoor.RangeM Go.Proofs.YthecfboplfmdmaaDoor.CarM Go.Proofs.YthecfboplfmdmaaDoor.Shf Go.Proofs.YthecfboplfmdmaaDoor.Nar Go.Proofs.YthecfboplfmdmaaDoor.End Go.Proofs.YthecfboplfmdmaaDoor.SlS

theorem own_nil (k : IntKind) (t base : Nat) (w : World) : Ow k t base w (.slice none 0 0) [] := ⟨rfl, .inl ⟨rfl, rfl⟩⟩
/-- The program, behind i slots. -/
structure EK (w : World) (ls : List Sl3) (i : Nat) (v u : Value) (W : World) : Prop where
  c : CS (w.heap.size + 1) (w.heap.size + 1) (enc en0 (sns (ls.take i))) u W
  z : Blk W w.heap.size #[.int .i64 0, .slice none 0 0] 27
  s : SlS W v ls
  l : Below w.heap.size w W
  le : i ≤ ls.length
  ok : ∀ j, j < i → sG (ls.getD j (0, 0, 0)) = 0
set_option maxRecDepth 100000 in
set_option maxHeartbeats 2000000 in
theorem implEnc_calls (v : Value) (ls : List Sl3) (w : World) (h : SlS w v ls) (hm : ls.length ≤ 1048576) :
    Calls Tryd.prog 33 #[v] w fun e w' => ∃ u, e = .returned (.agg #[.int .i64 (eC ls), u]) ∧ OwB w.heap.size w' u (eL ls) ∧ Below w.heap.size w w' := by
  have Hs := hid h
  obtain ⟨a, cap, rfl, hc⟩ := h
  have Hc := hid hc
  clear hc
  by_cases hmany : 400 < ls.length
  · obtain ⟨m1, m2⟩ := eC_many hmany
    have M1 := hid m1
    have M2 := hid m2
    clear m1 m2
    have HL := hid (bmore (Below.refl w.heap.size w) (.cells #[.int .i64 2, .slice none 0 0] 27))
    go_enter Tryd.func33, Tryd.ntmps33
    go_wp2
    exact bodyPost_ret (v := .agg #[.int .i64 2, .slice none 0 0]) (by simp [results, Tryd.results33, go_sem]) rfl ⟨_, by rw [M1.out], by rw [M2.out]; exact own_nil _ _ _ _, HL.out⟩
  · have hl4 : ls.length ≤ 400 := by omega
    have HK : Hid (EK w ls 0 (.slice a ls.length cap) (.slice none 0 0) (((w.alloc (.cells #[.int .i64 0, .slice none 0 0] 27)).alloc (.cells #[.slice none 0 0, .int .i64 0, .int .i64 16777216] 81)))) := by
      refine ⟨⟨?_, own_nil _ _ _ _⟩, (Blk.new w _ _).alloc _, Hs.out.later (bmore (bmore (Below.refl _ _) _) _), bmore (bmore (Below.refl _ _) _) _, Nat.zero_le _, fun j hj => by omega⟩
      have := Blk.new (w.alloc (.cells #[.int .i64 0, .slice none 0 0] 27)) #[.slice none 0 0, .int .i64 0, .int .i64 16777216] 81
      rw [World.size_alloc] at this
      exact this
    go_enter Tryd.func33, Tryd.ntmps33
    go_wp2_with fail
    go_loopw [14] (fun i wr => ∃ (k : Nat) (u : Value), i = .int .i64 k ∧ Hid (EK w ls k (.slice a ls.length cap) u wr)) (fun i _ => ls.length - (intOf i).toNat)
    case atStart => exact ⟨0, _, rfl, HK.out⟩
    case round =>
      obtain ⟨k, u, rfl, hk⟩ := hrel
      have hle := hk.out.le
      by_cases hlt : k < ls.length
      · have hne : ls ≠ [] := by intro e; rw [e] at hlt; simp at hlt
        obtain ⟨a', cap', hv, hc⟩ := hk.out.s
        cases hv
        obtain ⟨b, off, rfl, hbl, hcell⟩ := hc hne
        obtain ⟨c1, c2, c3⟩ := hcell k hlt
        clear hc hcell Hc
        generalize hx : ls.getD k (0, 0, 0) = x at *
        obtain ⟨lo, sz, tot⟩ := x
        have Hx := hid hx
        dsimp only at c1 c2 c3
        have hb0 := Blk.new wr #[.int .i64 lo, .int .i64 sz, .int .i64 tot] 75
        obtain ⟨d1, d2, d3, _⟩ := hb0.three
        have HF := hid (implSF_calls lo sz tot (wr.alloc (.cells #[.int .i64 lo, .int .i64 sz, .int .i64 tot] 75)))
        have HB0 := hid hb0
        have HW0 := hid (bmore (Below.refl wr.heap.size wr) (.cells #[.int .i64 lo, .int .i64 sz, .int .i64 tot] 75))
        clear hb0 hx
        go_wp2_with fail
        refine HF.out.mono ?_
        rintro e w1 ⟨rfl, hb1⟩
        obtain ⟨g1, g2, g3, _⟩ := (HB0.out.later hb1).three
        have HW1 := hid (bthen HW0.out hb1)
        clear HF hb1 HB0 HW0 d1 d2 d3 c1 c2 c3
        have HE : Hid (EK w ls k (.slice (some ⟨b, off, none⟩) ls.length cap) u w1) := by
          have h := hk.out
          have hz := h.c.b.lt
          exact ⟨⟨h.c.b.later HW1.out, h.c.o.later HW1.out⟩, h.z.later HW1.out, h.s.later HW1.out, h.l.trans (HW1.out.mono (by omega)), h.le, h.ok⟩
        by_cases h0 : sF lo sz tot = 0
        · have hs0 : sG (lo, sz, tot) = 0 := h0
          rw [h0]
          obtain ⟨hok, x1, x2, x3⟩ := sG_of hs0
          have hcs := HE.out.c
          have hoks := sns_ok hle HE.out.ok
          have heok := enc_ok en0_ok hoks
          have hek := enc_k hoks (by unfold sns; rw [List.length_map, List.length_take]; omega)
          have HN := hid (narrow_calls (w.heap.size + 1) (w.heap.size + 1) _ (toSn (lo, sz, tot)) u w1 hcs heok hok (by omega) (Nat.le_refl _))
          rw [← x1, ← x2, ← x3, ← enc_snoc] at HN
          have Hstep : Hid (sns (ls.take k) ++ [toSn (lo, sz, tot)] = sns (ls.take (k + 1))) := by rw [sns_take ls k hlt, Hx.out]; rfl
          have Hz : Hid (sG (ls.getD k (0, 0, 0)) = 0) := by show sG _ = 0; rw [Hx.out]; exact hs0
          rw [Hstep.out] at HN
          clear hcs hoks heok hek x1 x2 x3 hok hs0 h0 hk Hx Hstep HK
          go_wp2_with fail
          refine HN.out.mono ?_
          rintro e w2 ⟨⟨r, rfl⟩, u2, hc2, hb2⟩
          have HE2 : Hid (EK w ls (k + 1) (.slice (some ⟨b, off, none⟩) ls.length cap) u2 w2) := by
            have h := HE.out
            have hz := h.c.b.lt
            have hsb : SlS w2 (.slice (some ⟨b, off, none⟩) ls.length cap) ls := Hs.out.later (h.l.trans (hb2.mono (by omega)))
            refine ⟨hc2, h.z.below hb2 (by omega), hsb, h.l.trans (hb2.mono (by omega)), by omega, fun j hj => ?_⟩
            by_cases hjk : j < k
            · exact h.ok j hjk
            · obtain rfl : j = k := by omega
              exact Hz.out
          clear hc2 hb2 HN HE g1 g2 g3
          go_wp2
          go_roundw
          case rel => exact ⟨k + 1, u2, by go_num, HE2.out⟩
          case measure => simp [intOf]; omega
        · have h0' : (sF lo sz tot == 0) = false := by simpa using h0
          have h1 : sG (ls.getD k (0, 0, 0)) ≠ 0 := by rw [Hx.out]; exact h0
          obtain ⟨m1, m2⟩ := eC_fault hl4 hlt HE.out.ok h1
          have M1 : Hid (eC ls = sF lo sz tot) := by rw [Hx.out] at m1; exact m1
          have M2 := hid m2
          obtain ⟨z0, z1, f0, f1⟩ := HE.out.z.two
          have HZ := hid ((HE.out.z.set 0 (.int .i64 (sF lo sz tot))).set 1 (.slice none 0 0))
          have HL := hid (below_set2 HE.out.l (.int .i64 (sF lo sz tot)) (.slice none 0 0))
          clear m1 m2 h1 h0 HE HK hk Hx Hs
          generalize sF lo sz tot = c at *
          go_wp2
          obtain ⟨y0, y1, _⟩ := HZ.out.two
          exact bodyPost_ret (v := .agg #[.int .i64 c, .slice none 0 0]) (by simp [results, Tryd.results33, go_sem, y0, y1]) rfl ⟨_, by rw [M1.out], by rw [M2.out]; exact own_nil _ _ _ _, HL.out⟩
      · obtain rfl : k = ls.length := by omega
        have hoks := sns_ok hle hk.out.ok
        obtain ⟨m1, m2⟩ := eC_ok hl4 hk.out.ok
        have heok := enc_ok en0_ok hoks
        have hek := enc_k hoks (by unfold sns; rw [List.length_map, List.length_take]; omega)
        have HN := hid (end_calls (w.heap.size + 1) (w.heap.size + 1) _ u wr hk.out.c heok.2.1 (by omega) (Nat.le_refl _))
        rw [List.take_length] at HN
        have M1 := hid m1
        have M2 := hid m2
        clear hoks heok hek m1 m2 Hs HK
        go_wp2_with fail
        refine HN.out.mono ?_
        rintro e w2 ⟨gc, cc, rfl, ho2, hb2⟩
        have hE : eL ls = trim (digs ((enc en0 (sns ls)).k + 3) (enc en0 (sns ls)).n) := M2.out
        have HZ : Hid (Blk w2 w.heap.size #[.int .i64 0, .slice none 0 0] 27) := hk.out.z.below hb2 (by omega)
        have HL := hid (below_set2 (hk.out.l.trans (hb2.mono (by omega))) (.int .i64 0) (.slice (some ⟨gc, 0, none⟩) (trim (digs ((enc en0 (sns ls)).k + 3) (enc en0 (sns ls)).n)).length cc))
        have HO := hid (Ow.set2 ho2 (.int .i64 0) (.slice (some ⟨gc, 0, none⟩) (trim (digs ((enc en0 (sns ls)).k + 3) (enc en0 (sns ls)).n)).length cc))
        have HE := hid hE
        clear hE ho2 hb2 HN hk
        generalize (trim (digs ((enc en0 (sns ls)).k + 3) (enc en0 (sns ls)).n)).length = m at *
        obtain ⟨z0, z1, f0, f1⟩ := HZ.out.two
        have HZ2 := hid ((HZ.out.set 0 (.int .i64 0)).set 1 (.slice (some ⟨gc, 0, none⟩) m cc))
        go_wp2
        obtain ⟨y0, y1, _⟩ := HZ2.out.two
        exact bodyPost_ret (v := .agg #[.int .i64 0, .slice (some ⟨gc, 0, none⟩) m cc]) (by simp [results, Tryd.results33, go_sem, y0, y1]) rfl ⟨_, by rw [M1.out], by rw [HE.out]; exact HO.out, HL.out⟩
end Go.Proofs.YthecfboplfmdmaaDoor.Enc
