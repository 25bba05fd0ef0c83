/- Synths that are drawn: right ones. -/
import Derived.Test.YtobmngoodjmdaaaDoorDrwF
import Derived.Test.YtobmngoodjmdaaaDoorLapV
import Derived.Test.YtobmngoodjmdaaaDoorOwsG
namespace Go.Proofs.YtobmngoodjmdaaaDoor.DrwH
open Go.ChangeShapes Go.WideShapes Go.ChangeAt Go.RowKit Go.Proofs.YtobmngoodjmdaaaDoor.Num Go.Proofs.YtobmngoodjmdaaaDoor.Sli Go.Proofs.YtobmngoodjmdaaaDoor.App Go.Proofs.YtobmngoodjmdaaaDoor.Samp Go.Proofs.YtobmngoodjmdaaaDoor.SampF Go.Proofs.YtobmngoodjmdaaaDoor.Blk Go.Proofs.YtobmngoodjmdaaaDoor.TurM Go.Proofs.YtobmngoodjmdaaaDoor.HalM Go.Proofs.YtobmngoodjmdaaaDoor.LapM Go.Proofs.YtobmngoodjmdaaaDoor.LapN Go.Proofs.YtobmngoodjmdaaaDoor.IntL Go.Proofs.YtobmngoodjmdaaaDoor.OwsG Go.Proofs.YtobmngoodjmdaaaDoor.LapS Go.Proofs.YtobmngoodjmdaaaDoor.LapU Go.Proofs.YtobmngoodjmdaaaDoor.LapV Go.Proofs.YtobmngoodjmdaaaDoor.Src Go.Proofs.YtobmngoodjmdaaaDoor.Lists Go.Proofs.YtobmngoodjmdaaaDoor.Samples Go.Proofs.YtobmngoodjmdaaaDoor.Draws Go.Proofs.YtobmngoodjmdaaaDoor.DrwF

/-- What the draw of a synth keeps: the answer's block, the synth's and the lap's block and their lists, the source. -/
structure SD (w0 w : World) (g : Nat) (a : Option Addr) (cap : Nat) (bs : List Int) (R Y L : Nat) (s : Int) (p q u t : Value) (head tail half rest : List Int) (at' : Nat) (W : World) : Prop where
  r : Blk W R #[.int .i64 0, .slice none 0 0, .slice none 0 0] 34
  y : Blk W Y #[.int .i64 s, p, q] 34
  l : Blk W L #[.int .i64 s, u, t] 29
  ty : TW (w.heap.size + 1) p q head tail W
  tl : TW (w.heap.size + 1) u t half rest W
  src : Src w0 W g a cap bs at'
  k : w.grownBy W (some g)
  nb : ∀ j, Ob [p, q, u, t] j → j ≠ R ∧ j ≠ Y ∧ j ≠ L
  nm : R ≠ Y ∧ R ≠ L ∧ Y ≠ L ∧ w.heap.size ≤ R ∧ w.heap.size ≤ Y ∧ w.heap.size ≤ L ∧ g < w.heap.size
section
variable {w0 w W W' : World} {g : Nat} {a : Option Addr} {cap : Nat} {bs : List Int} {R Y L : Nat} {s : Int} {p q u t : Value} {head tail half rest : List Int} {at' at2 : Nat}
theorem SD.next (h : SD w0 w g a cap bs R Y L s p q u t head tail half rest at' W) (hs : Src w0 W' g a cap bs at2) (hg : W.grownBy W' (some g)) : SD w0 w g a cap bs R Y L s p q u t head tail half rest at2 W' := by
  obtain ⟨n1, n2, n3, n4, n5, n6, n7⟩ := h.nm
  exact ⟨h.r.kept hg (by simp; omega), h.y.kept hg (by simp; omega), h.l.kept hg (by simp; omega), h.ty.over (by omega) hg, h.tl.over (by omega) hg, hs, grown_same h.k hg, h.nb, h.nm⟩
theorem SD.later (h : SD w0 w g a cap bs R Y L s p q u t head tail half rest at' W) (hb : Below W.heap.size W W') : SD w0 w g a cap bs R Y L s p q u t head tail half rest at' W' :=
  h.next (src_grown (row := none) h.src (grown_below hb) (fun _ e => by cases e)) (grown_below hb)
theorem tw_ne {base X : Nat} {v v' : Value} {S D : List Int} (h : TW base v v' S D W) (hg : W.grownBy W' (some X)) (hn : ∀ j, Ob [v, v'] j → j ≠ X) : TW base v v' S D W' :=
  ⟨IntA.Ow.keptNe h.s hg (fun j e => by cases e; intro e2; exact hn X ⟨_, List.mem_cons_self .., e2⟩ rfl), IntA.Ow.keptNe h.d hg (fun j e => by cases e; intro e2; exact hn X ⟨_, List.mem_cons_of_mem _ (List.mem_cons_self ..), e2⟩ rfl), h.ne⟩
theorem far_k {X : Nat} (h : w.grownBy W (some g)) (hX : w.heap.size ≤ X) (hg : W.grownBy W' (some X)) : w.grownBy W' (some g) :=
  ⟨hg.os.trans h.os, hg.tape.trans h.tape, hg.output.trans h.output, Nat.le_trans h.size hg.size, fun j hj hne => by rw [hg.block j (Nat.lt_of_lt_of_le hj h.size) (by simp; omega), h.block j hj hne]⟩
theorem ob_pq {j : Nat} (h : Ob [p, q] j) : Ob [p, q, u, t] j := h.sub (.cons_cons _ (.cons_cons _ (List.nil_sublist _)))
theorem ob_ut {j : Nat} (h : Ob [u, t] j) : Ob [p, q, u, t] j := h.sub (.cons _ (.cons _ (List.Sublist.refl _)))
theorem ob_or {j : Nat} (h : Ob [p, q, u, t] j) : Ob [p, q] j ∨ Ob [u, t] j := by
  obtain ⟨v, hv, e⟩ := h
  rcases List.mem_cons.1 hv with rfl | hv
  · exact .inl ⟨_, List.mem_cons_self .., e⟩
  · rcases List.mem_cons.1 hv with rfl | hv
    · exact .inl ⟨_, List.mem_cons_of_mem _ (List.mem_cons_self ..), e⟩
    · exact .inr ⟨v, hv, e⟩
theorem tw_blocks {base : Nat} {v v' : Value} {S D : List Int} (h : TW base v v' S D W) {j : Nat} (hj : Ob [v, v'] j) : base ≤ j ∧ j < W.heap.size := (OWS.two h.s h.d h.ne).blocks hj
/-- The lap is replaced by another one, made since; so is the synth. -/
theorem SD.putL {u' t' : Value} {half' rest' : List Int} {base : Nat} (h : SD w0 w g a cap bs R Y L s p q u t head tail half rest at' W) (hl : L < base ∧ Y < base ∧ R < base) (hw : w.heap.size + 1 ≤ base) (ht : TW base u' t' half' rest' W) (hw0 : w0.heap.size ≤ g) :
    SD w0 w g a cap bs R Y L s p q u' t' head tail half' rest' at' (((W.setCell ⟨L, 0, none⟩ (.int .i64 s)).setCell ⟨L, 1, none⟩ u').setCell ⟨L, 2, none⟩ t') := by
  obtain ⟨n1, n2, n3, n4, n5, n6, n7⟩ := h.nm
  have hg := grown_set3 W L (.int .i64 s) u' t'
  refine ⟨h.r.kept hg (by simp; omega), h.y.kept hg (by simp; omega), ((h.l.set 0 _).set 1 _).set 2 _, tw_ne h.ty hg (fun j e => (h.nb j (ob_pq e)).2.2), (ht.over hl.1 hg).mono hw, src_grown h.src hg (fun j e => by cases e; omega), far_k h.k n6 hg, fun j e => ?_, h.nm⟩
  rcases ob_or e with e | e
  · exact h.nb j (ob_pq e)
  · have := tw_blocks ht e; omega
theorem SD.putY {p' q' : Value} {head' tail' : List Int} {base : Nat} (h : SD w0 w g a cap bs R Y L s p q u t head tail half rest at' W) (hl : L < base ∧ Y < base ∧ R < base) (hw : w.heap.size + 1 ≤ base) (ht : TW base p' q' head' tail' W) (hw0 : w0.heap.size ≤ g) :
    SD w0 w g a cap bs R Y L s p' q' u t head' tail' half rest at' (((W.setCell ⟨Y, 0, none⟩ (.int .i64 s)).setCell ⟨Y, 1, none⟩ p').setCell ⟨Y, 2, none⟩ q') := by
  obtain ⟨n1, n2, n3, n4, n5, n6, n7⟩ := h.nm
  have hg := grown_set3 W Y (.int .i64 s) p' q'
  refine ⟨h.r.kept hg (by simp; omega), ((h.y.set 0 _).set 1 _).set 2 _, h.l.kept hg (by simp; omega), (ht.over hl.2.1 hg).mono hw, tw_ne h.tl hg (fun j e => (h.nb j (ob_ut e)).2.1), src_grown h.src hg (fun j e => by cases e; omega), far_k h.k n5 hg, fun j e => ?_, h.nm⟩
  rcases ob_or e with e | e
  · have := tw_blocks ht e; omega
  · exact h.nb j (ob_ut e)
end
/-- What is fed by a right lap is played by a right synth. -/
theorem fed_plays {s : Int} {head tail half rest fr : List Int} (hf : fdC s half rest fr = 0) (hy : syC s head tail = 0) : plC s head tail (fdK s half rest fr) = 0 := by
  obtain ⟨r1, r2, r3⟩ := fed_right hf
  obtain ⟨hz, _⟩ := lf_ok r1
  obtain ⟨h3, e1, _⟩ := sz_nat hz
  have hg : gbC (fdK s half rest fr) = 0 := by
    unfold gbC
    rw [r2, if_pos h3, if_pos (show (fdK s half rest fr).all coB = true from (lim_all (M := 16777216) (by omega)).2 (r3.mono (by omega)))]
  unfold plC; rw [if_pos hy, if_pos (by rw [r2]; exact e1)]; exact hg
set_option maxRecDepth 100000 in
set_option maxHeartbeats 4000000 in
theorem l7Synth_calls (w0 w : World) (g : Nat) (a : Option Addr) (cap : Nat) (bs : List Int) (at' : Nat) (h : Src w0 w g a cap bs at') (hat : at' ≤ 5000) :
    Calls Tryd.prog 95 #[.pointer (some ⟨g, 0, none⟩)] w fun e w' => ∃ s p q head tail at2, e = .returned (.agg #[.int .i64 s, p, q]) ∧ syC s head tail = 0 ∧ TW w.heap.size p q head tail w' ∧ at2 ≤ at' + 130 ∧ Src w0 w' g a cap bs at2 ∧ w.grownBy w' (some g) := by
  have hgw := src_lt h
  have hw0g : w0.heap.size ≤ g := h.1
  have hb0 := bmore (Below.refl _ w) (.cells #[.int .i64 0, .slice none 0 0, .slice none 0 0] 34)
  have HS0 := hid (src_grown (row := none) h (grown_below hb0) (fun _ e => by cases e))
  have HR0 := hid (Blk.new w #[.int .i64 0, .slice none 0 0, .slice none 0 0] 34)
  have HG0 := hid (grown_below (r := some g) hb0)
  have hsz0 : (w.alloc (.cells #[.int .i64 0, .slice none 0 0, .slice none 0 0] 34)).heap.size = w.heap.size + 1 := World.size_alloc _ _
  clear h hb0
  go_enter Tryd.func95, Tryd.ntmps95
  go_wp2_with fail
  generalize w.alloc (.cells #[.int .i64 0, .slice none 0 0, .slice none 0 0] 34) = w1 at *
  refine (l1Size_calls w0 _ g a cap bs _ HS0.out (by omega)).mono ?_
  rintro e w2 ⟨s, rfl, hz, hs2, hg2⟩
  have HS2 := hid hs2
  have HR2 := hid (HR0.out.kept hg2 (by simp; omega))
  have HG2 := hid (grown_same HG0.out hg2)
  have hsz2 : w.heap.size + 1 ≤ w2.heap.size := by have := hg2.size; omega
  have Hz := hid hz
  clear hs2 hg2 HS0 HR0 HG0
  go_wp2_with fail
  refine (l7NewSynth_calls s _ hz).mono ?_
  rintro e w3 ⟨p, q, rfl, ht3, hb3⟩
  obtain ⟨ap, cp, rfl, -⟩ := ht3.s.sl
  obtain ⟨aq, cq, rfl, -⟩ := ht3.d.sl
  have ha3 := bmore (Below.refl w3.heap.size w3) (.cells #[.int .i64 s, .slice ap (List.replicate (hN s) (0 : Int)).length cp, .slice aq (List.replicate (hN s) (0 : Int)).length cq] 34)
  have hba := bthen hb3 ha3
  have HS4 := hid (src_grown (row := none) HS2.out (grown_below hba) (fun _ e => by cases e))
  have HR4 := hid (HR2.out.later hba)
  have HG4 := hid (grown_same HG2.out (grown_below (r := some g) hba))
  have HT4 := hid (ht3.later ha3)
  have HY4 := hid (Blk.new w3 #[.int .i64 s, .slice ap (List.replicate (hN s) (0 : Int)).length cp, .slice aq (List.replicate (hN s) (0 : Int)).length cq] 34)
  have HB4 : Hid (∀ j, Ob [.slice ap (List.replicate (hN s) (0 : Int)).length cp, .slice aq (List.replicate (hN s) (0 : Int)).length cq] j → w2.heap.size ≤ j ∧ j < w3.heap.size) := fun j e => tw_blocks ht3 e
  have hsz3 := hb3.size
  have hsz4 : (w3.alloc (.cells #[.int .i64 s, .slice ap (List.replicate (hN s) (0 : Int)).length cp, .slice aq (List.replicate (hN s) (0 : Int)).length cq] 34)).heap.size = w3.heap.size + 1 := World.size_alloc _ _
  clear ht3 hb3 ha3 hba HS2 HR2 HG2
  obtain ⟨y0, y1, y2, _⟩ := HY4.out.three
  rw [List.length_replicate] at *
  go_wp2_with fail
  generalize (w3.alloc (.cells #[.int .i64 s, .slice ap (hN s) cp, .slice aq (hN s) cq] 34)) = w4 at *
  refine (l7New_calls s _ hz).mono ?_
  rintro e w5 ⟨u, t, rfl, ht5, hb5⟩
  obtain ⟨au, cu, rfl, -⟩ := ht5.s.sl
  obtain ⟨av, cv, rfl, -⟩ := ht5.d.sl
  rw [List.length_replicate] at *
  have HD6 : Hid (∃ (p q u t : Value) (head tail half rest : List Int), lfC s half rest = 0 ∧ syC s head tail = 0 ∧ SD w0 w g a cap bs w.heap.size w3.heap.size w5.heap.size s p q u t head tail half rest (at' + 1) (w5.alloc (.cells #[.int .i64 s, .slice au (hN s) cu, .slice av (hN s) cv] 29))) := by
    have ha := bmore (Below.refl w5.heap.size w5) (.cells #[.int .i64 s, .slice au (hN s) cu, .slice av (hN s) cv] 29)
    have hba := bthen hb5 ha
    have hs5 := hb5.size
    have hbl5 : ∀ j, Ob [.slice au (hN s) cu, .slice av (hN s) cv] j → w4.heap.size ≤ j ∧ j < w5.heap.size := fun j e => tw_blocks ht5 e
    refine ⟨_, _, _, _, _, _, _, _, lf_yes hz (by simp) (by simp) (fun i => by rw [zero_get]; omega) (smL_zero _), sy_yes hz (by simp) (by simp) (fun i => by rw [zero_get]; omega) (fun i => by rw [zero_get]; omega), HR4.out.later hba, HY4.out.later hba, Blk.new _ _ _, (HT4.out.later hba).mono (by omega), (ht5.later ha).mono (by omega), src_grown (row := none) HS4.out (grown_below hba) (fun _ e => by cases e), grown_same HG4.out (grown_below hba), fun j e => ?_, by omega⟩
    rcases ob_or e with e | e
    · have := HB4.out j e; omega
    · have := hbl5 j e; omega
  clear ht5 hb5 HS4 HR4 HG4 HT4 HY4 HB4 y0 y1 y2
  go_wp2_with fail
  generalize (w5.alloc (.cells #[.int .i64 s, .slice au (hN s) cu, .slice av (hN s) cv] 29)) = w6 at *
  generalize w5.heap.size = L at *
  generalize w3.heap.size = Y at *
  obtain ⟨p, q, u, t, head, tail, half, rest, hc, hy, hD⟩ := HD6.out
  refine (l1Next_calls w0 _ g a cap bs _ 4 hD.src (by omega) (by omega) (by omega)).mono ?_
  rintro e w7 ⟨n, rfl, hn0, hn4, hs7, hg7⟩
  have HD7 : Hid (∃ (p q u t : Value) (head tail half rest : List Int) (at2 : Nat), lfC s half rest = 0 ∧ syC s head tail = 0 ∧ at2 ≤ at' + 2 + (3 - n.toNat) * 31 ∧ SD w0 w g a cap bs w.heap.size Y L s p q u t head tail half rest at2 w7) := ⟨_, _, _, _, _, _, _, _, _, hc, hy, by omega, hD.next hs7 hg7⟩
  clear hs7 hg7 hD HD6 hc hy p q u t head tail half rest
  obtain ⟨i, rfl⟩ := Int.eq_ofNat_of_zero_le hn0
  rw [Int.toNat_natCast] at HD7
  have hi3 : i < 4 := by omega
  have hsi : 4 ≤ s ∧ s ≤ 16 ∧ (s.toNat : Int) = s ∧ s.toNat ≤ 20 := by rcases sz_cases Hz.out with rfl | rfl | rfl <;> decide
  clear hn0 hn4 hz
  have HSa := hid (fun W at2 (hs : Src w0 W g a cap bs at2) (q : at2 ≤ 10000) => l1Samples_calls w0 W g a cap bs at2 s.toNat hs q hsi.2.2.2)
  rw [hsi.2.2.1] at HSa
  clear hsz0 hsz2 hsz3 hsz4
  go_wp2
  go_loopw [5] (fun n wr => ∃ i : Nat, n = .int .i64 (i : Int) ∧ i < 4 ∧ Hid (∃ (p q u t : Value) (head tail half rest : List Int) (at2 : Nat), lfC s half rest = 0 ∧ syC s head tail = 0 ∧ at2 ≤ at' + 2 + (3 - i) * 31 ∧ SD w0 w g a cap bs w.heap.size Y L s p q u t head tail half rest at2 wr)) (fun n _ => (intOf n).toNat)
  case atStart => exact ⟨i, rfl, hi3, HD7⟩
  case round =>
    clear HD7 hi3
    obtain ⟨j, rfl, hj, HD⟩ := hrel
    by_cases hlt : 0 < j
    · obtain ⟨p, q, u, t, head, tail, half, rest, at2, hc, hy, hat2, hD⟩ := HD.out
      have ha := bmore (Below.refl wr.heap.size wr) (.cells #[] 2)
      have HDD := hid (hD.later ha)
      have Hc := hid hc
      have Hy := hid hy
      have Hat := hid hat2
      have hjI : (0 : Int) < (j : Int) := by omega
      obtain ⟨l0, l1, l2, _⟩ := hD.l.three
      have hlL := hD.l.lt
      clear HD hD hc hy hat2 ha
      go_wp2_with fail
      generalize (wr.alloc (.cells #[] 2)) = wa at *
      refine (HSa.out _ _ HDD.out.src (by have := Hat.out; omega)).mono ?_
      rintro e w8 ⟨gl, cl, ys, at3, rfl, ho8, hn8, hy8, hat3, hs8, hg8⟩
      have hfd : fdC s half rest ys = 0 := by unfold fdC; rw [if_pos Hc.out]; exact sm_yes Hz.out (by omega) (smL_of hy8)
      have ho8' : OwI wa.heap.size w8 (.slice (some ⟨gl, 0, none⟩) ys.length cl) ys := ho8
      have HO8 := hid ho8'
      have HD8 := hid (HDD.out.next hs8 hg8)
      have Hat3 : Hid (at3 ≤ at' + 2 + (3 - (j - 1)) * 31) := by show _ ≤ _; have := Hat.out; omega
      have HF := hid hfd
      have HPl := hid (fed_plays hfd Hy.out)
      clear ho8 ho8' hn8 hy8 hat3 hs8 hg8 HDD hfd Hc Hat Hy l0 l1 l2 hlL
      go_wp2_with fail
      refine (l7Feed_calls L s u t _ half rest ys _ HD8.out.l HD8.out.tl.s.sl HD8.out.tl.d.sl HO8.out.sl HO8.out.fits HF.out).mono ?_
      rintro e w9 ⟨u', t', k', rfl, ht9, hk9, hb9⟩
      have HD9 := hid (HD8.out.later hb9)
      have hL8 : L < w8.heap.size ∧ Y < w8.heap.size ∧ w.heap.size < w8.heap.size := ⟨HD8.out.l.lt, HD8.out.y.lt, HD8.out.r.lt⟩
      obtain ⟨a1, c1, rfl, -⟩ := ht9.s.sl
      obtain ⟨a2, c2, rfl, -⟩ := ht9.d.sl
      obtain ⟨a3, c3, rfl, -⟩ := hk9.sl
      obtain ⟨l0, l1, l2, f0, f1, f2⟩ := HD9.out.l.three
      have HD10 := hid (HD9.out.putL hL8 (by omega) ht9 hw0g)
      have HK10 := hid (hk9.over hL8.1 (grown_set3 w9 L (.int .i64 s) (.slice a1 (fdH s rest ys).length c1) (.slice a2 (ys.drop (hN s)).length c2)))
      have Hc10 := hid (fed_right HF.out).1
      clear ht9 hk9 hb9 HD8 HD9 HF HO8
      generalize ys.drop (hN s) = rD at *
      generalize fdH s rest ys = rF at *
      generalize fdK s half rest ys = rK at *
      go_wp2_with fail
      generalize (((w9.setCell ⟨L, 0, none⟩ (.int .i64 s)).setCell ⟨L, 1, none⟩ (.slice a1 rF.length c1)).setCell ⟨L, 2, none⟩ (.slice a2 rD.length c2)) = w10 at *
      refine (l7Play_calls Y s p q _ head tail rK _ HD10.out.y HD10.out.ty.s.sl HD10.out.ty.d.sl HK10.out.sl HPl.out).mono ?_
      rintro e w11 ⟨p', q', f', rfl, ht11, hk11, hb11⟩
      have HD11 := hid (HD10.out.later hb11)
      have hL10 : L < w10.heap.size ∧ Y < w10.heap.size ∧ w.heap.size < w10.heap.size := ⟨HD10.out.l.lt, HD10.out.y.lt, HD10.out.r.lt⟩
      obtain ⟨a4, c4, rfl, -⟩ := ht11.s.sl
      obtain ⟨a5, c5, rfl, -⟩ := ht11.d.sl
      obtain ⟨m0, m1, m2, g0, g1, g2⟩ := HD11.out.y.three
      have HD12 := hid (HD11.out.putY hL10 (by omega) ht11 hw0g)
      have Hy12 := hid (played_right HPl.out).1
      obtain ⟨a6, c6, rfl, -⟩ := hk11.sl
      clear ht11 hk11 hb11 HD10 HD11 HPl HK10 l0 l1 l2 f0 f1 f2
      generalize (plB s rK).drop (hN s) = rB at *
      generalize plH s tail rK = rH at *
      generalize head ++ plT s tail rK = rFr at *
      go_wp2
      go_roundw
      case rel => exact ⟨j - 1, by go_num, by omega, _, _, _, _, _, _, _, _, _, Hc10.out, Hy12.out, Hat3.out, HD12.out⟩
      case measure => simp [intOf]; omega
    · obtain rfl : j = 0 := by omega
      obtain ⟨p, q, u, t, head, tail, half, rest, at2, hc, hy, hat2, hD⟩ := HD.out
      obtain ⟨a1, c1, rfl, -⟩ := hD.ty.s.sl
      obtain ⟨a2, c2, rfl, -⟩ := hD.ty.d.sl
      have HDD := hid hD
      have Hy := hid hy
      have Hat : Hid (at2 ≤ at' + 130) := by show _ ≤ _; omega
      obtain ⟨l0, l1, l2, _⟩ := hD.y.three
      obtain ⟨r0, r1, r2, f0, f1, f2⟩ := hD.r.three
      clear HD hD hc hy hat2
      have HG := hid (grown_set3 wr w.heap.size (.int .i64 s) (.slice a1 head.length c1) (.slice a2 tail.length c2))
      have HT := hid ((HDD.out.ty.over (Nat.lt_succ_self _) HG.out).mono (Nat.le_succ _))
      have HSr := hid (src_grown HDD.out.src HG.out (fun j e => by cases e; omega))
      have HGr := hid (far_k HDD.out.k (Nat.le_refl _) HG.out)
      clear HDD HG
      go_wp2
      exact bodyPost_ret (v := .agg #[.int .i64 s, .slice a1 head.length c1, .slice a2 tail.length c2]) (by simp [results, Tryd.results95, go_sem, r0, r1, r2]) rfl ⟨_, _, _, _, _, _, rfl, Hy.out, HT.out, Hat.out, HSr.out, HGr.out⟩
end Go.Proofs.YtobmngoodjmdaaaDoor.DrwH
