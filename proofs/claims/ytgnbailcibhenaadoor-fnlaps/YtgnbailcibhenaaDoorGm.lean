/- Laps that are drawn: right ones. || Laps and frames that are drawn, right ones and bent ones. || Synths that are drawn: right ones. -/
import Derived.Test.YtgnbailcibhenaaDoorGk
import Derived.Test.YtgnbailcibhenaaDoorGe
import Derived.Test.YtgnbailcibhenaaDoorGa
namespace Go.Proofs.YtgnbailcibhenaaDoor.DrwF
open Go.ChangeShapes Go.WideShapes Go.ChangeAt Go.RowKit Go.Proofs.YtgnbailcibhenaaDoor.Num Go.Proofs.YtgnbailcibhenaaDoor.Sli Go.Proofs.YtgnbailcibhenaaDoor.App Go.Proofs.YtgnbailcibhenaaDoor.Samp Go.Proofs.YtgnbailcibhenaaDoor.SampF Go.Proofs.YtgnbailcibhenaaDoor.Blk Go.Proofs.YtgnbailcibhenaaDoor.TurM Go.Proofs.YtgnbailcibhenaaDoor.LapM Go.Proofs.YtgnbailcibhenaaDoor.LapN Go.Proofs.YtgnbailcibhenaaDoor.IntL Go.Proofs.YtgnbailcibhenaaDoor.LapS Go.Proofs.YtgnbailcibhenaaDoor.LapU Go.Proofs.YtgnbailcibhenaaDoor.Src Go.Proofs.YtgnbailcibhenaaDoor.Lists Go.Proofs.YtgnbailcibhenaaDoor.Samples Go.Proofs.YtgnbailcibhenaaDoor.Draws

theorem l1Size_calls (w0 w : World) (g : Nat) (a : Option Addr) (cap : Nat) (bs : List Int) (at' : Nat) (h : Src w0 w g a cap bs at') (hat : at' ≤ 100000) :
    Calls Tryd.prog 76 #[.pointer (some ⟨g, 0, none⟩)] w fun e w' => ∃ r : Int, e = .returned (.int .i64 r) ∧ szF r = 0 ∧ Src w0 w' g a cap bs (at' + 1) ∧ w.grownBy w' (some g) := by
  have H := hid h
  have hgw := src_lt h
  clear h
  go_enter Tryd.func76, Tryd.ntmps76
  go_wp2_with fail
  refine (l1Pick_lit w0 _ g a cap bs _ 4 2 [4, 8, 16, 8] _ H.out (by omega) rfl rfl (by omega) (by omega)).mono ?_
  rintro e w2 ⟨r, rfl, hr, hs2, hg2⟩
  have HR : Hid (szF r = 0) := by
    show _ = _
    simp only [List.mem_cons, List.not_mem_nil, or_false] at hr
    rcases hr with rfl | rfl | rfl | rfl <;> decide
  have HS := hid hs2
  have HG := hid (grown_then (grown_alloc w _ (some g)) hg2 (fun j e => Or.inl (by simpa using e.symm)))
  clear hr hs2 hg2
  go_wp2
  go_ret
  exact ⟨_, rfl, HR.out, HS.out, HG.out⟩
theorem smL_of {ys : List Int} (h : ∀ y ∈ ys, -32768 ≤ y ∧ y ≤ 32767) : smL ys := by
  rw [← smL_all, List.all_eq_true]
  intro x hx
  exact inB_yes (h x hx).1 (h x hx).2
/-- A list in a block from base on. -/
def Sx (base : Nat) (w : World) (v : Value) (xs : List Int) : Prop :=
  ∃ a cap, v = .slice a xs.length cap ∧ (xs ≠ [] → ∃ b off, a = some ⟨b, off, none⟩ ∧ base ≤ b ∧ b < w.heap.size ∧ ∀ i, i < xs.length → w.cell? ⟨b, off + i, none⟩ = some (.int .i64 (xs.getD i 0)))
theorem Sx.sl {base : Nat} {w : World} {v : Value} {xs : List Int} (h : Sx base w v xs) : Sl .i64 w v xs := by
  obtain ⟨a, cap, rfl, hc⟩ := h
  exact ⟨a, cap, rfl, fun hne => by obtain ⟨b, off, rfl, _, h2, h3⟩ := hc hne; exact ⟨b, off, rfl, h2, h3⟩⟩
theorem Sx.kept {base : Nat} {w w' : World} {v : Value} {xs : List Int} {r : Option Nat} (h : Sx base w v xs) (hg : w.grownBy w' r) (hr : ∀ j, r = some j → j < base) : Sx base w' v xs := by
  obtain ⟨a, cap, rfl, hc⟩ := h
  refine ⟨a, cap, rfl, fun hne => ?_⟩
  obtain ⟨b, off, rfl, h1, h2, h3⟩ := hc hne
  have hb : w'.heap[b]? = w.heap[b]? := hg.block b h2 (fun e => by have := hr b e.symm; omega)
  exact ⟨b, off, rfl, h1, Nat.lt_of_lt_of_le h2 hg.size, fun i hi => by rw [← h3 i hi]; simp only [World.cell?, hb]⟩
theorem Sx.mono {base base' : Nat} {w : World} {v : Value} {xs : List Int} (h : Sx base w v xs) (hb : base' ≤ base) : Sx base' w v xs := by
  obtain ⟨a, cap, rfl, hc⟩ := h
  exact ⟨a, cap, rfl, fun hne => by obtain ⟨b, off, rfl, h1, h2, h3⟩ := hc hne; exact ⟨b, off, rfl, Nat.le_trans hb h1, h2, h3⟩⟩
theorem Sx.of {base : Nat} {w : World} {v : Value} {xs : List Int} (h : OwI base w v xs) : Sx base w v xs := by
  obtain ⟨a, cap, hv, hc⟩ := h.sl
  refine ⟨a, cap, hv, fun hne => ?_⟩
  obtain ⟨b, off, e, h2, h3⟩ := hc hne
  rw [e] at hv
  exact ⟨b, off, e, (h.block b (by rw [hv]; rfl)).1, h2, h3⟩
/-- What the draw of a lap keeps: the answer's block, the lap's block and its lists, the source. -/
structure LD (w0 w : World) (g : Nat) (a : Option Addr) (cap : Nat) (bs : List Int) (R L : Nat) (s : Int) (u t : Value) (half rest : List Int) (at' : Nat) (ty : TypeId) (W : World) : Prop where
  r : Blk W R #[.int .i64 0, .slice none 0 0, .slice none 0 0] ty
  l : Blk W L #[.int .i64 s, u, t] ty
  tw : TW (w.heap.size + 1) u t half rest W
  src : Src w0 W g a cap bs at'
  k : w.grownBy W (some g)
  ne : R ≠ L
  lr : w.heap.size ≤ R
  ll : w.heap.size ≤ L
  lg : g < w.heap.size
section
variable {w0 w W W' : World} {g : Nat} {a : Option Addr} {cap : Nat} {bs : List Int} {R L : Nat} {s : Int} {u t : Value} {half rest : List Int} {at' at2 : Nat} {ty : TypeId}
theorem LD.next (h : LD w0 w g a cap bs R L s u t half rest at' ty W) (hs : Src w0 W' g a cap bs at2) (hg : W.grownBy W' (some g)) : LD w0 w g a cap bs R L s u t half rest at2 ty W' :=
  have h1 := h.lr; have h2 := h.ll; have h3 := h.lg
  ⟨h.r.kept hg (by simp; omega), h.l.kept hg (by simp; omega), h.tw.over (by omega) hg, hs, grown_same h.k hg, h.ne, h1, h2, h3⟩
theorem grown_below {r : Option Nat} (hb : Below W.heap.size W W') : W.grownBy W' r := ⟨hb.os, hb.tape, hb.output, hb.size, fun j hj _ => hb.block j hj⟩
theorem LD.later (h : LD w0 w g a cap bs R L s u t half rest at' ty W) (hb : Below W.heap.size W W') : LD w0 w g a cap bs R L s u t half rest at' ty W' :=
  h.next (src_grown (row := none) h.src (grown_below hb) (fun _ e => by cases e)) (grown_below hb)
/-- The lap is replaced by another one, made since. -/
theorem LD.put {u' t' : Value} {half' rest' : List Int} {base : Nat} {W1 : World} (h : LD w0 w g a cap bs R L s u t half rest at' ty W1) (hl : L < base) (hw : w.heap.size + 1 ≤ base) (ht : TW base u' t' half' rest' W1) (s' : Int) (hw0 : w0.heap.size ≤ L) :
    LD w0 w g a cap bs R L s' u' t' half' rest' at' ty (((W1.setCell ⟨L, 0, none⟩ (.int .i64 s')).setCell ⟨L, 1, none⟩ u').setCell ⟨L, 2, none⟩ t') := by
  have h1 := h.lr; have h2 := h.ll; have h3 := h.lg
  have hg := grown_set3 W1 L (.int .i64 s') u' t'
  refine ⟨h.r.kept hg (by simp; exact h.ne.symm), ((h.l.set 0 _).set 1 _).set 2 _, (ht.over hl hg).mono hw, src_grown h.src hg (fun j e => by cases e; omega), ?_, h.ne, h1, h2, h3⟩
  refine ⟨h.k.os, h.k.tape, h.k.output, Nat.le_trans h.k.size hg.size, fun j hj hne => ?_⟩
  rw [hg.block j (Nat.lt_of_lt_of_le hj h.k.size) (by simp; omega), h.k.block j hj hne]
end
set_option maxHeartbeats 4000000 in
theorem l7Draw_calls (w0 w : World) (g : Nat) (a : Option Addr) (cap : Nat) (bs : List Int) (at' : Nat) (h : Src w0 w g a cap bs at') (hat : at' ≤ 5000) :
    Calls Tryd.prog 96 #[.pointer (some ⟨g, 0, none⟩)] w fun e w' => ∃ s u t half rest at2, e = .returned (.agg #[.int .i64 s, u, t]) ∧ lfC s half rest = 0 ∧ TW w.heap.size u t half rest w' ∧ at2 ≤ at' + 100 ∧ Src w0 w' g a cap bs at2 ∧ w.grownBy w' (some g) := by
  have hgw := src_lt h
  have hw0g : w0.heap.size ≤ g := h.1
  have hb0 := bmore (Below.refl _ w) (.cells #[.int .i64 0, .slice none 0 0, .slice none 0 0] 29)
  have HS0 := hid (src_grown (row := none) h (grown_below hb0) (fun _ e => by cases e))
  have HR0 := hid (Blk.new w #[.int .i64 0, .slice none 0 0, .slice none 0 0] 29)
  have HG0 := hid (grown_below (r := some g) hb0)
  have hsz0 : w.heap.size < (w.alloc (.cells #[.int .i64 0, .slice none 0 0, .slice none 0 0] 29)).heap.size := by simp
  clear h hb0
  go_enter Tryd.func96, Tryd.ntmps96
  go_wp2_with fail
  generalize w.alloc (.cells #[.int .i64 0, .slice none 0 0, .slice none 0 0] 29) = w1 at *
  refine (l1Size_calls w0 _ g a cap bs _ HS0.out (by omega)).mono ?_
  rintro e w2 ⟨s, rfl, hz, hs2, hg2⟩
  have HS2 := hid hs2
  have HR2 := hid (HR0.out.kept hg2 (by simp; omega))
  have HG2 := hid (grown_same HG0.out hg2)
  have hsz2 : w.heap.size < w2.heap.size := Nat.lt_of_lt_of_le hsz0 hg2.size
  have Hz := hid hz
  clear hs2 hg2 HS0 HR0 HG0
  go_wp2_with fail
  refine (l7New_calls s _ hz).mono ?_
  rintro e w3 ⟨u, t, rfl, ht, hb3⟩
  have hfz : lfC s (List.replicate (hN s) 0) (List.replicate (hN s) 0) = 0 := lf_yes hz (by simp) (by simp) (fun i => by rw [zero_get]; omega) (smL_zero _)
  obtain ⟨au, cu, rfl, -⟩ := ht.s.sl
  obtain ⟨av, cv, rfl, -⟩ := ht.d.sl
  rw [List.length_replicate] at *
  have HD3 : Hid (∃ (u t : Value) (half rest : List Int), lfC s half rest = 0 ∧ LD w0 w g a cap bs w.heap.size w3.heap.size s u t half rest (at' + 1) 29 (w3.alloc (.cells #[.int .i64 s, .slice au (hN s) cu, .slice av (hN s) cv] 29))) := by
    have ha := bmore (Below.refl w3.heap.size w3) (.cells #[.int .i64 s, .slice au (hN s) cu, .slice av (hN s) cv] 29)
    have hba := bthen hb3 ha
    have hs3 := hb3.size
    exact ⟨_, _, _, _, hfz, HR2.out.later hba, Blk.new _ _ _, (ht.later ha).mono (by omega), src_grown (row := none) HS2.out (grown_below hba) (fun _ e => by cases e), grown_same HG2.out (grown_below hba), by omega, Nat.le_refl _, by omega, hgw⟩
  have hs3 : w.heap.size < w3.heap.size := Nat.lt_of_lt_of_le hsz2 hb3.size
  clear ht hb3 HS2 HR2 HG2 hfz hz
  go_wp2_with fail
  generalize (w3.alloc (.cells #[.int .i64 s, .slice au (hN s) cu, .slice av (hN s) cv] 29)) = w4 at *
  generalize w3.heap.size = L at *
  obtain ⟨u, t, half, rest, hc, hD⟩ := HD3.out
  refine (l1Next_calls w0 _ g a cap bs _ 3 hD.src (by omega) (by omega) (by omega)).mono ?_
  rintro e w5 ⟨n, rfl, hn0, hn3, hs5, hg5⟩
  have HD5 : Hid (∃ (u t : Value) (half rest : List Int) (at2 : Nat), lfC s half rest = 0 ∧ at2 ≤ at' + 2 + (2 - n.toNat) * 31 ∧ LD w0 w g a cap bs w.heap.size L s u t half rest at2 29 w5) := ⟨_, _, _, _, _, hc, by omega, hD.next hs5 hg5⟩
  clear hs5 hg5 hD HD3 hc u t half rest
  obtain ⟨i, rfl⟩ := Int.eq_ofNat_of_zero_le hn0
  rw [Int.toNat_natCast] at HD5
  have hi3 : i < 3 := by omega
  have hsi : 4 ≤ s ∧ s ≤ 16 ∧ (s.toNat : Int) = s ∧ s.toNat ≤ 20 := by rcases sz_cases Hz.out with rfl | rfl | rfl <;> decide
  clear hn0 hn3
  have HSa := hid (fun W at2 (hs : Src w0 W g a cap bs at2) (q : at2 ≤ 10000) => l1Samples_calls w0 W g a cap bs at2 s.toNat hs q hsi.2.2.2)
  rw [hsi.2.2.1] at HSa
  go_wp2
  go_loopw [4] (fun n wr => ∃ i : Nat, n = .int .i64 (i : Int) ∧ i < 3 ∧ Hid (∃ (u t : Value) (half rest : List Int) (at2 : Nat), lfC s half rest = 0 ∧ at2 ≤ at' + 2 + (2 - i) * 31 ∧ LD w0 w g a cap bs w.heap.size L s u t half rest at2 29 wr)) (fun n _ => (intOf n).toNat)
  case atStart => exact ⟨i, rfl, hi3, HD5⟩
  case round =>
    clear HD5 hi3
    obtain ⟨j, rfl, hj, HD⟩ := hrel
    by_cases hlt : 0 < j
    · obtain ⟨u, t, half, rest, at2, hc, hat2, hD⟩ := HD.out
      have HDD := hid hD
      have Hc := hid hc
      have Hat := hid hat2
      have hjI : (0 : Int) < (j : Int) := by omega
      obtain ⟨l0, l1, l2, _⟩ := hD.l.three
      clear HD hD hc hat2
      go_wp2_with fail
      refine (HSa.out _ _ HDD.out.src (by have := Hat.out; omega)).mono ?_
      rintro e w6 ⟨gl, cl, ys, at3, rfl, ho6, hn6, hy6, hat3, hs6, hg6⟩
      have hfd : fdC s half rest ys = 0 := by unfold fdC; rw [if_pos Hc.out]; exact sm_yes Hz.out (by omega) (smL_of hy6)
      have ho6' : OwI wr.heap.size w6 (.slice (some ⟨gl, 0, none⟩) ys.length cl) ys := ho6
      have HO6 := hid ho6'
      have HD6 := hid (HDD.out.next hs6 hg6)
      have Hat3 : Hid (at3 ≤ at' + 2 + (2 - (j - 1)) * 31) := by show _ ≤ _; have := Hat.out; omega
      have HF := hid hfd
      clear ho6 ho6' hn6 hy6 hat3 hs6 hg6 HDD hfd Hc Hat l0 l1 l2
      go_wp2_with fail
      refine (l7Feed_calls L s u t _ half rest ys _ HD6.out.l HD6.out.tw.s.sl HD6.out.tw.d.sl HO6.out.sl HO6.out.fits HF.out).mono ?_
      rintro e w7 ⟨u', t', k', rfl, ht7, hk7, hb7⟩
      have HD7 := hid (HD6.out.later hb7)
      have hL6 := HD6.out.l.lt
      have hw6 : w.heap.size + 1 ≤ w6.heap.size := by have := HD6.out.r.lt; omega
      obtain ⟨a1, c1, rfl, -⟩ := ht7.s.sl
      obtain ⟨a2, c2, rfl, -⟩ := ht7.d.sl
      obtain ⟨l0, l1, l2, f0, f1, f2⟩ := HD7.out.l.three
      have HD8 := hid (HD7.out.put hL6 hw6 ht7 s (by omega))
      have Hc8 := hid (fed_right HF.out).1
      clear ht7 hk7 hb7 HD6 HD7 HF HO6
      generalize ys.drop (hN s) = rD at *
      generalize fdH s rest ys = rF at *
      go_wp2
      go_roundw
      case rel => exact ⟨j - 1, by go_num, by omega, _, _, _, _, _, Hc8.out, Hat3.out, HD8.out⟩
      case measure => simp [intOf]; omega
    · obtain rfl : j = 0 := by omega
      obtain ⟨u, t, half, rest, at2, hc, hat2, hD⟩ := HD.out
      obtain ⟨a1, c1, rfl, -⟩ := hD.tw.s.sl
      obtain ⟨a2, c2, rfl, -⟩ := hD.tw.d.sl
      have HDD := hid hD
      have Hc := hid hc
      have Hat : Hid (at2 ≤ at' + 100) := by show _ ≤ _; omega
      obtain ⟨l0, l1, l2, _⟩ := hD.l.three
      obtain ⟨r0, r1, r2, f0, f1, f2⟩ := hD.r.three
      clear HD hD hc hat2
      have HG := hid (grown_set3 wr w.heap.size (.int .i64 s) (.slice a1 half.length c1) (.slice a2 rest.length c2))
      have HT := hid ((HDD.out.tw.over (Nat.lt_succ_self _) HG.out).mono (Nat.le_succ _))
      have HSr := hid (src_grown HDD.out.src HG.out (fun j e => by cases e; omega))
      have HGr : Hid (w.grownBy (((wr.setCell ⟨w.heap.size, 0, none⟩ (.int .i64 s)).setCell ⟨w.heap.size, 1, none⟩ (.slice a1 half.length c1)).setCell ⟨w.heap.size, 2, none⟩ (.slice a2 rest.length c2)) (some g)) :=
        ⟨HDD.out.k.os, HDD.out.k.tape, HDD.out.k.output, Nat.le_trans HDD.out.k.size HG.out.size, fun j hj hne => by rw [HG.out.block j (Nat.lt_of_lt_of_le hj HDD.out.k.size) (by simp; omega), HDD.out.k.block j hj hne]⟩
      clear HDD HG
      go_wp2
      exact bodyPost_ret (v := .agg #[.int .i64 s, .slice a1 half.length c1, .slice a2 rest.length c2]) (by simp [results, Tryd.results96, go_sem, r0, r1, r2]) rfl ⟨_, _, _, _, _, _, rfl, Hc.out, HT.out, Hat.out, HSr.out, HGr.out⟩
theorem src_drew {w0 W : World} {g : Nat} {a : Option Addr} {cap : Nat} {bs : List Int} {at' : Nat} (h : Src w0 W g a cap bs at') : Src w0 W.drew g a cap bs at' := ⟨h.1, h.2.1.drew, h.2.2⟩
section
variable {w0 w W : World} {g : Nat} {a : Option Addr} {cap : Nat} {bs : List Int} {R L : Nat} {s : Int} {u t : Value} {half rest : List Int} {at' : Nat} {ty : TypeId} {gh gr m c1 c2 : Nat}
theorem LD.drew (h : LD w0 w g a cap bs R L s u t half rest at' ty W) : LD w0 w g a cap bs R L s u t half rest at' ty W.drew :=
  ⟨h.r, h.l, ⟨h.tw.s, h.tw.d, h.tw.ne⟩, src_drew h.src, ⟨h.k.os, h.k.tape, h.k.output, h.k.size, h.k.block⟩, h.ne, h.lr, h.ll, h.lg⟩
/-- A number of the first list is written; of the second one. -/
theorem LD.setS (h : LD w0 w g a cap bs R L s (.slice (some ⟨gh, 0, none⟩) m c1) (.slice (some ⟨gr, 0, none⟩) m c2) half rest at' ty W) (hm : half.length = m) (i : Nat) (x : Int) (hR : gh ≠ R) (hL : gh ≠ L) (hn : gh ≠ gr) (hw0 : w.heap.size ≤ gh ∧ w0.heap.size ≤ gh) :
    LD w0 w g a cap bs R L s (.slice (some ⟨gh, 0, none⟩) m c1) (.slice (some ⟨gr, 0, none⟩) m c2) (half.set i x) rest at' ty (W.setCell ⟨gh, i, none⟩ (.int .i64 x)) := by
  have h1 := h.lr; have h2 := h.ll; have h3 := h.lg
  have hst := App.Ow.set h.tw.s hm.symm i x
  have hg := hst.2
  refine ⟨h.r.kept hg (by simp; omega), h.l.kept hg (by simp; omega), ⟨hst.1, IntA.Ow.keptNe h.tw.d hg (fun j e => by cases e; simp [Value.ownBlock]; omega), h.tw.ne⟩, src_grown h.src hg (fun j e => by cases e; omega), ?_, h.ne, h1, h2, h3⟩
  refine ⟨h.k.os, h.k.tape, h.k.output, Nat.le_trans h.k.size hg.size, fun j hj hne => ?_⟩
  rw [hg.block j (Nat.lt_of_lt_of_le hj h.k.size) (by simp; omega), h.k.block j hj hne]
theorem LD.setD (h : LD w0 w g a cap bs R L s (.slice (some ⟨gh, 0, none⟩) m c1) (.slice (some ⟨gr, 0, none⟩) m c2) half rest at' ty W) (hm : rest.length = m) (i : Nat) (x : Int) (hR : gr ≠ R) (hL : gr ≠ L) (hn : gh ≠ gr) (hw0 : w.heap.size ≤ gr ∧ w0.heap.size ≤ gr) :
    LD w0 w g a cap bs R L s (.slice (some ⟨gh, 0, none⟩) m c1) (.slice (some ⟨gr, 0, none⟩) m c2) half (rest.set i x) at' ty (W.setCell ⟨gr, i, none⟩ (.int .i64 x)) := by
  have h1 := h.lr; have h2 := h.ll; have h3 := h.lg
  have hst := App.Ow.set h.tw.d hm.symm i x
  have hg := hst.2
  refine ⟨h.r.kept hg (by simp; omega), h.l.kept hg (by simp; omega), ⟨IntA.Ow.keptNe h.tw.s hg (fun j e => by cases e; simp [Value.ownBlock]; omega), hst.1, h.tw.ne⟩, src_grown h.src hg (fun j e => by cases e; omega), ?_, h.ne, h1, h2, h3⟩
  refine ⟨h.k.os, h.k.tape, h.k.output, Nat.le_trans h.k.size hg.size, fun j hj hne => ?_⟩
  rw [hg.block j (Nat.lt_of_lt_of_le hj h.k.size) (by simp; omega), h.k.block j hj hne]
end
/-- What holds of a lap but for its own block. -/
structure LE (w0 w : World) (g : Nat) (a : Option Addr) (cap : Nat) (bs : List Int) (u t : Value) (half rest : List Int) (at' : Nat) (W : World) : Prop where
  tw : TW (w.heap.size + 1) u t half rest W
  src : Src w0 W g a cap bs at'
  k : w.grownBy W (some g)
/-- The first list's slot alone is replaced. -/
theorem LD.two {w0 w W : World} {g : Nat} {a : Option Addr} {cap : Nat} {bs : List Int} {R L : Nat} {s : Int} {u t : Value} {half rest : List Int} {at' : Nat} {ty : TypeId} (h : LD w0 w g a cap bs R L s u t half rest at' ty W) (u' : Value) (hb : ∀ j, (u.ownBlock = some j ∨ t.ownBlock = some j) → j ≠ L) (hw0 : w0.heap.size ≤ L) :
    LE w0 w g a cap bs u t half rest at' (W.setCell ⟨L, 1, none⟩ u') := by
  have h1 := h.lr; have h2 := h.ll; have h3 := h.lg
  have hg := grown_set W L 1 u'
  refine ⟨⟨IntA.Ow.keptNe h.tw.s hg (fun j e => by cases e; intro e2; exact hb L (.inl e2) rfl), IntA.Ow.keptNe h.tw.d hg (fun j e => by cases e; intro e2; exact hb L (.inr e2) rfl), h.tw.ne⟩, src_grown h.src hg (fun j e => by cases e; omega), ?_⟩
  refine ⟨h.k.os, h.k.tape, h.k.output, Nat.le_trans h.k.size hg.size, fun j hj hne => ?_⟩
  rw [hg.block j (Nat.lt_of_lt_of_le hj h.k.size) (by simp; omega), h.k.block j hj hne]
/-- The size alone is replaced. -/
theorem LD.one {w0 w W : World} {g : Nat} {a : Option Addr} {cap : Nat} {bs : List Int} {R L : Nat} {s : Int} {u t : Value} {half rest : List Int} {at' : Nat} {ty : TypeId} (h : LD w0 w g a cap bs R L s u t half rest at' ty W) (s' : Int) (hb : ∀ j, (u.ownBlock = some j ∨ t.ownBlock = some j) → j ≠ L) (hw0 : w0.heap.size ≤ L) :
    LD w0 w g a cap bs R L s' u t half rest at' ty (W.setCell ⟨L, 0, none⟩ (.int .i64 s')) := by
  have h1 := h.lr; have h2 := h.ll; have h3 := h.lg
  have hg := grown_set W L 0 (.int .i64 s')
  refine ⟨h.r.kept hg (by simp; exact h.ne.symm), h.l.set 0 _, ⟨IntA.Ow.keptNe h.tw.s hg (fun j e => by cases e; intro e2; exact hb L (.inl e2) rfl), IntA.Ow.keptNe h.tw.d hg (fun j e => by cases e; intro e2; exact hb L (.inr e2) rfl), h.tw.ne⟩, src_grown h.src hg (fun j e => by cases e; omega), ?_, h.ne, h1, h2, h3⟩
  refine ⟨h.k.os, h.k.tape, h.k.output, Nat.le_trans h.k.size hg.size, fun j hj hne => ?_⟩
  rw [hg.block j (Nat.lt_of_lt_of_le hj h.k.size) (by simp; omega), h.k.block j hj hne]
/-- A list that is not empty lies in a block. -/
theorem ow_some {base : Nat} {w : World} {v : Value} {ys : List Int} (h : OwI base w v ys) (hn : ys ≠ []) : ∃ g c, v = .slice (some ⟨g, 0, none⟩) ys.length c := by
  rcases h.2 with ⟨_, h0⟩ | ⟨g, cap, _, rfl, _⟩
  · exact absurd (List.eq_nil_of_length_eq_zero h0) hn
  · exact ⟨g, cap, rfl⟩
theorem tail_sx {base : Nat} {w : World} {g m c : Nat} {ys : List Int} (h : OwI base w (.slice (some ⟨g, 0, none⟩) m c) ys) (hm : ys.length = m) (h2 : 2 ≤ m) : Sx base w (.slice (some ⟨g, 1, none⟩) (m - 1) (c - 1)) (ys.drop 1) := by
  have hb := h.block g rfl
  refine ⟨_, _, by rw [List.length_drop, hm], fun _ => ⟨g, 1, rfl, hb.1, hb.2, fun i hi => ?_⟩⟩
  rw [List.length_drop] at hi
  rw [drop_get, (h.cellAt hm.symm (1 + i) (by omega)).1]
set_option maxRecDepth 100000 in
set_option maxHeartbeats 4000000 in
theorem l7Bent_calls (w0 w : World) (g : Nat) (a : Option Addr) (cap : Nat) (bs : List Int) (at' : Nat) (h : Src w0 w g a cap bs at') (hat : at' ≤ 4000) :
    Calls Tryd.prog 58 #[.pointer (some ⟨g, 0, none⟩)] w fun e w' => ∃ s u t half rest at2, e = .returned (.agg #[.int .i64 s, u, t]) ∧ Sx w.heap.size w' u half ∧ Sx w.heap.size w' t rest ∧ Fits u ∧ Fits t ∧ (half.length ≤ 16 ∧ rest.length ≤ 16 ∧ -1000 ≤ s ∧ s ≤ 1000) ∧ at2 ≤ at' + 110 ∧ Src w0 w' g a cap bs at2 ∧ w.grownBy w' (some g) := by
  have hgw := src_lt h
  have hw0g : w0.heap.size ≤ g := h.1
  have hb0 := bmore (Below.refl _ w) (.cells #[.int .i64 0, .slice none 0 0, .slice none 0 0] 29)
  have HS0 := hid (src_grown (row := none) h (grown_below hb0) (fun _ e => by cases e))
  have HR0 := hid (Blk.new w #[.int .i64 0, .slice none 0 0, .slice none 0 0] 29)
  have HG0 := hid (grown_below (r := some g) hb0)
  have hsz0 : (w.alloc (.cells #[.int .i64 0, .slice none 0 0, .slice none 0 0] 29)).heap.size = w.heap.size + 1 := World.size_alloc _ _
  clear h hb0
  go_enter Tryd.func58, Tryd.ntmps58
  go_wp2_with fail
  generalize w.alloc (.cells #[.int .i64 0, .slice none 0 0, .slice none 0 0] 29) = w1 at *
  refine (l7Draw_calls w0 _ g a cap bs _ HS0.out (by omega)).mono ?_
  rintro e w2 ⟨s, u, t, half, rest, at2, rfl, hc, ht, hat2, hs2, hg2⟩
  obtain ⟨hz, l1, l2, -, -⟩ := lf_ok hc
  obtain ⟨-, e1, e2, e3, e4, e5⟩ := sz_nat hz
  have hsb : -1000 ≤ s ∧ s ≤ 1000 := by omega
  obtain ⟨gh, c1, rfl⟩ := ow_some ht.s (by intro e; rw [e] at l1; simp at l1; omega)
  obtain ⟨gr, c2, rfl⟩ := ow_some ht.d (by intro e; rw [e] at l2; simp at l2; omega)
  have hm2 : 2 ≤ hN s ∧ hN s ≤ 8 := by omega
  have hc1 : half.length ≤ c1 := ht.s.fits
  rw [l1] at ht hc1 ⊢
  rw [l2] at ht ⊢
  have Hl1 := hid l1
  have Hl2 := hid l2
  have hnhr : gh ≠ gr := by intro e; exact ht.ne gh rfl (by rw [e]; rfl)
  generalize hN s = m at *
  have HD3 : Hid (LD w0 w g a cap bs w.heap.size w2.heap.size s (.slice (some ⟨gh, 0, none⟩) m c1) (.slice (some ⟨gr, 0, none⟩) m c2) half rest at2 29 (w2.alloc (.cells #[.int .i64 s, .slice (some ⟨gh, 0, none⟩) m c1, .slice (some ⟨gr, 0, none⟩) m c2] 29))) := by
    have ha := bmore (Below.refl w2.heap.size w2) (.cells #[.int .i64 s, .slice (some ⟨gh, 0, none⟩) m c1, .slice (some ⟨gr, 0, none⟩) m c2] 29)
    have hz2 := hg2.size
    exact ⟨(HR0.out.kept hg2 (by simp; omega)).later ha, Blk.new _ _ _, (ht.later ha).mono (by omega), src_grown (row := none) hs2 (grown_below ha) (fun _ e => by cases e), grown_same (grown_same HG0.out hg2) (grown_below ha), by omega, Nat.le_refl _, by omega, hgw⟩
  have hz2 : w.heap.size < w2.heap.size := by have := hg2.size; omega
  have hLh : gh < w2.heap.size ∧ gr < w2.heap.size ∧ w.heap.size < gh ∧ w.heap.size < gr := by have h1 := ht.s.block gh rfl; have h2 := ht.d.block gr rfl; omega
  have Hat0 := hid hat2
  clear ht hs2 hg2 HS0 HR0 HG0 hc hz l1 l2 e1 e2 e3 e4 e5 hat2
  go_wp2_with fail
  generalize (w2.alloc (.cells #[.int .i64 s, .slice (some ⟨gh, 0, none⟩) m c1, .slice (some ⟨gr, 0, none⟩) m c2] 29)) = w3 at *
  generalize w2.heap.size = L at *
  refine (l1Next_calls w0 _ g a cap bs _ 14 HD3.out.src (by have := Hat0.out; omega) (by omega) (by omega)).mono ?_
  rintro e W ⟨r, rfl, hr0, hr14, hs4, hg4⟩
  have HD := hid (HD3.out.next hs4 hg4)
  have Hat1 : Hid (at2 + 1 ≤ at' + 105) := by show _ ≤ _; have := Hat0.out; omega
  clear hs4 hg4 HD3 Hat0
  by_cases k0 : r = 0
  · subst k0
    clear hr0 hr14
    go_wp2_with fail
    refine (l1BentSize_calls w0 _ g a cap bs _ HD.out.src (by have := Hat1.out; omega)).mono ?_
    rintro e W2 ⟨r2, rfl, hr2, hs5, hg5⟩
    have HD5 := hid (HD.out.next hs5 hg5)
    have Hat : Hid (at2 + 1 + 1 ≤ at' + 110) := by show _ ≤ _; have := Hat1.out; omega
    have hr2b : -1000 ≤ r2 ∧ r2 ≤ 1000 := by
      simp only [List.mem_cons, List.not_mem_nil, or_false] at hr2
      rcases hr2 with rfl | rfl | rfl | rfl | rfl | rfl | rfl | rfl | rfl | rfl | rfl | rfl | rfl | rfl | rfl <;> omega
    obtain ⟨l0, l1, l2, lf0, lf1, lf2⟩ := HD5.out.l.three
    obtain ⟨r0, r1, r2', f0, f1, f2⟩ := HD5.out.r.three
    have hne := HD5.out.ne
    have HDw := hid (HD5.out.one r2 (fun j e => by simp [Value.ownBlock] at e; omega) (by omega))
    clear hs5 hg5 HD hr2 HD5
    have HG := hid (grown_set3 (W2.setCell ⟨L, 0, none⟩ (.int .i64 r2)) w.heap.size (.int .i64 r2) (.slice (some ⟨gh, 0, none⟩) m c1) (.slice (some ⟨gr, 0, none⟩) m c2))
    have HT := hid (HDw.out.tw.over (Nat.lt_succ_self _) HG.out)
    have HSr := hid (src_grown HDw.out.src HG.out (fun j e => by cases e; omega))
    have HGr : Hid (w.grownBy ((((W2.setCell ⟨L, 0, none⟩ (.int .i64 r2)).setCell ⟨w.heap.size, 0, none⟩ (.int .i64 r2)).setCell ⟨w.heap.size, 1, none⟩ (.slice (some ⟨gh, 0, none⟩) m c1)).setCell ⟨w.heap.size, 2, none⟩ (.slice (some ⟨gr, 0, none⟩) m c2)) (some g)) :=
      ⟨HDw.out.k.os, HDw.out.k.tape, HDw.out.k.output, Nat.le_trans HDw.out.k.size HG.out.size, fun j hj hne => by rw [HG.out.block j (Nat.lt_of_lt_of_le hj HDw.out.k.size) (by simp; omega), HDw.out.k.block j hj hne]⟩
    clear HDw HG
    go_wp2
    exact bodyPost_ret (v := .agg #[.int .i64 r2, (.slice (some ⟨gh, 0, none⟩) m c1), (.slice (some ⟨gr, 0, none⟩) m c2)]) (by simp [results, Tryd.results58, go_sem, r0, r1, r2']) rfl ⟨_, _, _, half, rest, _, rfl, (Sx.of HT.out.s).mono (Nat.le_succ _), (Sx.of HT.out.d).mono (Nat.le_succ _), HT.out.s.fits, HT.out.d.fits, (by have := Hl1.out; have := Hl2.out; omega), Hat.out, HSr.out, HGr.out⟩
  · have b0 : (r == 0) = false := by simpa using k0
    by_cases k1 : r = 1
    · subst k1
      clear hr0 hr14 b0 k0
      obtain ⟨l0, l1, l2, lf0, lf1, lf2⟩ := HD.out.l.three
      obtain ⟨r0, r1, r2', f0, f1, f2⟩ := HD.out.r.three
      have hne := HD.out.ne
      have Hat : Hid (at2 + 1 ≤ at' + 110) := by show _ ≤ _; have := Hat1.out; omega
      have hmI : (1 : Int) ≤ (m : Int) := by omega
      have hmc : (m : Int) ≤ (c1 : Int) := by have := Hl1.out; omega
      have hc11 : ¬ c1 = 1 := by have := Hl1.out; omega
      have HDw := hid (HD.out.two (.slice (some ⟨gh, 1, none⟩) (m - 1) (c1 - 1)) (fun j e => by simp [Value.ownBlock] at e; omega) (by omega))
      clear HD
      have HG := hid (grown_set3 (W.setCell ⟨L, 1, none⟩ (.slice (some ⟨gh, 1, none⟩) (m - 1) (c1 - 1))) w.heap.size (.int .i64 s) (.slice (some ⟨gh, 1, none⟩) (m - 1) (c1 - 1)) (.slice (some ⟨gr, 0, none⟩) m c2))
      have HT := hid (HDw.out.tw.over (Nat.lt_succ_self _) HG.out)
      have HSr := hid (src_grown HDw.out.src HG.out (fun j e => by cases e; omega))
      have HGr : Hid (w.grownBy ((((W.setCell ⟨L, 1, none⟩ (.slice (some ⟨gh, 1, none⟩) (m - 1) (c1 - 1))).setCell ⟨w.heap.size, 0, none⟩ (.int .i64 s)).setCell ⟨w.heap.size, 1, none⟩ (.slice (some ⟨gh, 1, none⟩) (m - 1) (c1 - 1))).setCell ⟨w.heap.size, 2, none⟩ (.slice (some ⟨gr, 0, none⟩) m c2)) (some g)) :=
        ⟨HDw.out.k.os, HDw.out.k.tape, HDw.out.k.output, Nat.le_trans HDw.out.k.size HG.out.size, fun j hj hne => by rw [HG.out.block j (Nat.lt_of_lt_of_le hj HDw.out.k.size) (by simp; omega), HDw.out.k.block j hj hne]⟩
      clear HDw HG
      go_wp2
      exact bodyPost_ret (v := .agg #[.int .i64 s, (.slice (some ⟨gh, 1, none⟩) (m - 1) (c1 - 1)), (.slice (some ⟨gr, 0, none⟩) m c2)]) (by simp [results, Tryd.results58, go_sem, r0, r1, r2']) rfl ⟨_, _, _, (half.drop 1), rest, _, rfl, tail_sx (HT.out.s.mono (Nat.le_succ _)) Hl1.out hm2.1, (Sx.of HT.out.d).mono (Nat.le_succ _), (by show m - 1 ≤ c1 - 1; have := Hl1.out; omega), HT.out.d.fits, (by have := Hl1.out; have := Hl2.out; rw [List.length_drop]; omega), Hat.out, HSr.out, HGr.out⟩
    · have b1 : (r == 1) = false := by simpa using k1
      by_cases k2 : r = 2
      · subst k2
        clear b0 b1 k0 k1
        clear hr0 hr14
        have hS0 : W.drew.cell? ⟨L, 1, none⟩ = some (.slice (some ⟨gh, 0, none⟩) m c1) := HD.out.l.three.2.1
        have HDd := hid (HD.out.drew.later (bmore (Below.refl _ W.drew) (.cells #[.int .i64 65536, .int .i64 65537, .int .i64 (-65537)] 2)))
        have hS1 : (W.alloc (.cells #[.int .i64 65536, .int .i64 65537, .int .i64 (-65537)] 2)).drew.cell? ⟨L, 1, none⟩ = some (.slice (some ⟨gh, 0, none⟩) m c1) := HDd.out.l.three.2.1
        have Hat : Hid (at2 + 1 + 1 ≤ at' + 110) := by show _ ≤ _; have := Hat1.out; omega
        have hmI : 0 < m := by omega
        go_wp2_with fail
        refine wp_region_noPanic ?_
        refine wp_region_held_drew (S := fun V => V.cell? ⟨L, 1, none⟩ = some (.slice (some ⟨gh, 0, none⟩) m c1)) (by kernel_rfl) (by first | exact hS3 | exact hS2 | exact hS1 | exact hS0) (fun hHeld => ?_)
        (refine wpAnyH_take (i := 0) (v := ?_) rfl (by kernel_rfl) (by kernel_rfl) (by kernel_rfl) (fun _ _ _ h => h) (Or.inl ⟨by rfl, ?_⟩) hHeld ?_; rotate_left; (intro w hSw; (have s0 := hSw); (go_simp <;> with_reducible rfl)); simp only [List.getElem_toArray, List.getElem_cons_zero, Act.put, List.setIfInBounds_toArray, List.set_cons_zero, List.set_cons_succ])
        (refine wpAnyH_take (i := 1) (v := ?_) rfl (by kernel_rfl) (by kernel_rfl) (by kernel_rfl) (fun _ _ _ h => h) (Or.inl ⟨by rfl, ?_⟩) hHeld ?_; rotate_left; (intro w hSw; (have s0 := hSw); (go_simp <;> with_reducible rfl)); simp only [List.getElem_toArray, List.getElem_cons_zero, List.getElem_cons_succ, Act.put, List.setIfInBounds_toArray, List.set_cons_zero, List.set_cons_succ])
        (refine wpAnyH_take (i := 2) (v := ?_) rfl (by kernel_rfl) (by kernel_rfl) (by kernel_rfl) (fun _ _ _ h => h) (Or.inl ⟨by rfl, ?_⟩) hHeld ?_; rotate_left; (intro w hSw; (have s0 := hSw); (go_simp <;> with_reducible rfl)); simp only [List.getElem_toArray, List.getElem_cons_zero, List.getElem_cons_succ, Act.put, List.setIfInBounds_toArray, List.set_cons_zero, List.set_cons_succ])
        refine wpAnyH_ready (rs := [3]) (by kernel_rfl) (by simp) ?_
        refine (AllReadyH.cons rfl (fun K hK => ?_) AllReadyH.nil)
        go_simp
        skip
        refine hK.out _ _ (by first | exact hS3 | exact hS2 | exact hS1 | exact hS0) (fun hHeld => ?_)
        clear hK K
        try simp only [List.getElem_toArray, List.getElem_cons_zero, List.getElem_cons_succ, Act.put, List.setIfInBounds_toArray, List.set_cons_zero, List.set_cons_succ]
        refine wpAnyH_ready (rs := [4]) (by kernel_rfl) (by simp) ?_
        refine (AllReadyH.cons rfl (fun K hK => ?_) AllReadyH.nil)
        go_simp
        (refine (l1Pick_lit w0 W.drew g a cap bs _ 3 2 [65536, 65537, -65537] _ HD.out.drew.src (by have := Hat1.out; omega) rfl rfl (by omega) (by omega)).mono ?_; rintro e W9 ⟨x, rfl, _, hs9, hg9⟩; have hD9 := HDd.out.next hs9 hg9; have hS2 := hD9.l.three.2.1; obtain ⟨cc, cf⟩ := App.Ow.cellAt hD9.tw.s Hl1.out.symm 0 (by rw [Hl1.out]; omega); have hD10 := hD9.setS Hl1.out 0 x (by omega) (by omega) hnhr (by omega))
        refine hK.out _ _ (by first | exact hS3 | exact hS2 | exact hS1 | exact hS0) (fun hHeld => ?_)
        clear hK K
        try dsimp only
        (refine wpAnyH_take (i := 5) (v := ?_) rfl (by kernel_rfl) (by kernel_rfl) (by kernel_rfl) (fun _ _ _ h => h) (Or.inl ⟨by rfl, ?_⟩) hHeld ?_; rotate_left; (intro w hSw; (have s0 := hSw); (go_simp <;> with_reducible rfl)); simp only [List.getElem_toArray, List.getElem_cons_zero, List.getElem_cons_succ, Act.put, List.setIfInBounds_toArray, List.set_cons_zero, List.set_cons_succ])
        refine wpAnyH_ready (rs := [6]) (by kernel_rfl) (by simp) ?_
        refine (AllReadyH.cons rfl (fun K hK => ?_) AllReadyH.nil)
        go_simp
        (have hS3 := hD10.l.three.2.1)
        refine hK.out _ _ (by first | exact hS3 | exact hS2 | exact hS1 | exact hS0) (fun hHeld => ?_)
        clear hK K
        try simp only [List.getElem_toArray, List.getElem_cons_zero, List.getElem_cons_succ, Act.put, List.setIfInBounds_toArray, List.set_cons_zero, List.set_cons_succ]
        refine wpAnyH_done (by kernel_rfl) ?_ _
        refine NoPanic.normal ?_
        have HDw := hid hD10
        clear hD9 hD10 hS0 hS1 hS2 hS3 HDd HD cc cf hg9 hs9
        have HG := hid (grown_set3 (W9.setCell ⟨gh, 0, none⟩ (.int .i64 x)) w.heap.size (.int .i64 s) (.slice (some ⟨gh, 0, none⟩) m c1) (.slice (some ⟨gr, 0, none⟩) m c2))
        have HT := hid (HDw.out.tw.over (Nat.lt_succ_self _) HG.out)
        have HSr := hid (src_grown HDw.out.src HG.out (fun j e => by cases e; omega))
        have HGr : Hid (w.grownBy ((((W9.setCell ⟨gh, 0, none⟩ (.int .i64 x)).setCell ⟨w.heap.size, 0, none⟩ (.int .i64 s)).setCell ⟨w.heap.size, 1, none⟩ (.slice (some ⟨gh, 0, none⟩) m c1)).setCell ⟨w.heap.size, 2, none⟩ (.slice (some ⟨gr, 0, none⟩) m c2)) (some g)) := ⟨HDw.out.k.os, HDw.out.k.tape, HDw.out.k.output, Nat.le_trans HDw.out.k.size HG.out.size, fun j hj hne => by rw [HG.out.block j (Nat.lt_of_lt_of_le hj HDw.out.k.size) (by simp; omega), HDw.out.k.block j hj hne]⟩
        obtain ⟨l0, l1, l2, lf0, lf1, lf2⟩ := HDw.out.l.three
        obtain ⟨r0, r1, r2', f0, f1, f2⟩ := HDw.out.r.three
        clear HDw HG
        go_wp2
        exact bodyPost_ret (v := .agg #[.int .i64 s, (.slice (some ⟨gh, 0, none⟩) m c1), (.slice (some ⟨gr, 0, none⟩) m c2)]) (by simp [results, Tryd.results58, go_sem, r0, r1, r2']) rfl ⟨_, _, _, (half.set 0 x), rest, _, rfl, (Sx.of HT.out.s).mono (Nat.le_succ _), (Sx.of HT.out.d).mono (Nat.le_succ _), HT.out.s.fits, HT.out.d.fits, (by have := Hl1.out; have := Hl2.out; simp only [List.length_set]; omega), Hat.out, HSr.out, HGr.out⟩
      · have b2 : (r == 2) = false := by simpa using k2
        by_cases k3 : r = 3
        · subst k3
          clear b0 b1 b2 k0 k1 k2
          clear hr0 hr14
          have hS0 : W.drew.cell? ⟨L, 2, none⟩ = some (.slice (some ⟨gr, 0, none⟩) m c2) := HD.out.l.three.2.2.1
          have HDd := hid (HD.out.drew.later (bmore (Below.refl _ W.drew) (.cells #[.int .i64 32767, .int .i64 32768, .int .i64 (-32769)] 2)))
          have hS1 : (W.alloc (.cells #[.int .i64 32767, .int .i64 32768, .int .i64 (-32769)] 2)).drew.cell? ⟨L, 2, none⟩ = some (.slice (some ⟨gr, 0, none⟩) m c2) := HDd.out.l.three.2.2.1
          have Hat : Hid (at2 + 1 + 1 ≤ at' + 110) := by show _ ≤ _; have := Hat1.out; omega
          have hmI : 0 < m := by omega
          go_wp2_with fail
          refine wp_region_noPanic ?_
          refine wp_region_held_drew (S := fun V => V.cell? ⟨L, 2, none⟩ = some (.slice (some ⟨gr, 0, none⟩) m c2)) (by kernel_rfl) (by first | exact hS3 | exact hS2 | exact hS1 | exact hS0) (fun hHeld => ?_)
          (refine wpAnyH_take (i := 0) (v := ?_) rfl (by kernel_rfl) (by kernel_rfl) (by kernel_rfl) (fun _ _ _ h => h) (Or.inl ⟨by rfl, ?_⟩) hHeld ?_; rotate_left; (intro w hSw; (have s0 := hSw); (go_simp <;> with_reducible rfl)); simp only [List.getElem_toArray, List.getElem_cons_zero, Act.put, List.setIfInBounds_toArray, List.set_cons_zero, List.set_cons_succ])
          (refine wpAnyH_take (i := 1) (v := ?_) rfl (by kernel_rfl) (by kernel_rfl) (by kernel_rfl) (fun _ _ _ h => h) (Or.inl ⟨by rfl, ?_⟩) hHeld ?_; rotate_left; (intro w hSw; (have s0 := hSw); (go_simp <;> with_reducible rfl)); simp only [List.getElem_toArray, List.getElem_cons_zero, List.getElem_cons_succ, Act.put, List.setIfInBounds_toArray, List.set_cons_zero, List.set_cons_succ])
          (refine wpAnyH_take (i := 2) (v := ?_) rfl (by kernel_rfl) (by kernel_rfl) (by kernel_rfl) (fun _ _ _ h => h) (Or.inl ⟨by rfl, ?_⟩) hHeld ?_; rotate_left; (intro w hSw; (have s0 := hSw); (go_simp <;> with_reducible rfl)); simp only [List.getElem_toArray, List.getElem_cons_zero, List.getElem_cons_succ, Act.put, List.setIfInBounds_toArray, List.set_cons_zero, List.set_cons_succ])
          refine wpAnyH_ready (rs := [3]) (by kernel_rfl) (by simp) ?_
          refine (AllReadyH.cons rfl (fun K hK => ?_) AllReadyH.nil)
          go_simp
          skip
          refine hK.out _ _ (by first | exact hS3 | exact hS2 | exact hS1 | exact hS0) (fun hHeld => ?_)
          clear hK K
          try simp only [List.getElem_toArray, List.getElem_cons_zero, List.getElem_cons_succ, Act.put, List.setIfInBounds_toArray, List.set_cons_zero, List.set_cons_succ]
          refine wpAnyH_ready (rs := [4]) (by kernel_rfl) (by simp) ?_
          refine (AllReadyH.cons rfl (fun K hK => ?_) AllReadyH.nil)
          go_simp
          (refine (l1Pick_lit w0 W.drew g a cap bs _ 3 2 [32767, 32768, -32769] _ HD.out.drew.src (by have := Hat1.out; omega) rfl rfl (by omega) (by omega)).mono ?_; rintro e W9 ⟨x, rfl, _, hs9, hg9⟩; have hD9 := HDd.out.next hs9 hg9; have hS2 := hD9.l.three.2.2.1; obtain ⟨cc, cf⟩ := App.Ow.cellAt hD9.tw.d Hl2.out.symm 0 (by rw [Hl2.out]; omega); have hD10 := hD9.setD Hl2.out 0 x (by omega) (by omega) hnhr (by omega))
          refine hK.out _ _ (by first | exact hS3 | exact hS2 | exact hS1 | exact hS0) (fun hHeld => ?_)
          clear hK K
          try dsimp only
          (refine wpAnyH_take (i := 5) (v := ?_) rfl (by kernel_rfl) (by kernel_rfl) (by kernel_rfl) (fun _ _ _ h => h) (Or.inl ⟨by rfl, ?_⟩) hHeld ?_; rotate_left; (intro w hSw; (have s0 := hSw); (go_simp <;> with_reducible rfl)); simp only [List.getElem_toArray, List.getElem_cons_zero, List.getElem_cons_succ, Act.put, List.setIfInBounds_toArray, List.set_cons_zero, List.set_cons_succ])
          refine wpAnyH_ready (rs := [6]) (by kernel_rfl) (by simp) ?_
          refine (AllReadyH.cons rfl (fun K hK => ?_) AllReadyH.nil)
          go_simp
          (have hS3 := hD10.l.three.2.2.1)
          refine hK.out _ _ (by first | exact hS3 | exact hS2 | exact hS1 | exact hS0) (fun hHeld => ?_)
          clear hK K
          try simp only [List.getElem_toArray, List.getElem_cons_zero, List.getElem_cons_succ, Act.put, List.setIfInBounds_toArray, List.set_cons_zero, List.set_cons_succ]
          refine wpAnyH_done (by kernel_rfl) ?_ _
          refine NoPanic.normal ?_
          have HDw := hid hD10
          clear hD9 hD10 hS0 hS1 hS2 hS3 HDd HD cc cf hg9 hs9
          have HG := hid (grown_set3 (W9.setCell ⟨gr, 0, none⟩ (.int .i64 x)) w.heap.size (.int .i64 s) (.slice (some ⟨gh, 0, none⟩) m c1) (.slice (some ⟨gr, 0, none⟩) m c2))
          have HT := hid (HDw.out.tw.over (Nat.lt_succ_self _) HG.out)
          have HSr := hid (src_grown HDw.out.src HG.out (fun j e => by cases e; omega))
          have HGr : Hid (w.grownBy ((((W9.setCell ⟨gr, 0, none⟩ (.int .i64 x)).setCell ⟨w.heap.size, 0, none⟩ (.int .i64 s)).setCell ⟨w.heap.size, 1, none⟩ (.slice (some ⟨gh, 0, none⟩) m c1)).setCell ⟨w.heap.size, 2, none⟩ (.slice (some ⟨gr, 0, none⟩) m c2)) (some g)) := ⟨HDw.out.k.os, HDw.out.k.tape, HDw.out.k.output, Nat.le_trans HDw.out.k.size HG.out.size, fun j hj hne => by rw [HG.out.block j (Nat.lt_of_lt_of_le hj HDw.out.k.size) (by simp; omega), HDw.out.k.block j hj hne]⟩
          obtain ⟨l0, l1, l2, lf0, lf1, lf2⟩ := HDw.out.l.three
          obtain ⟨r0, r1, r2', f0, f1, f2⟩ := HDw.out.r.three
          clear HDw HG
          go_wp2
          exact bodyPost_ret (v := .agg #[.int .i64 s, (.slice (some ⟨gh, 0, none⟩) m c1), (.slice (some ⟨gr, 0, none⟩) m c2)]) (by simp [results, Tryd.results58, go_sem, r0, r1, r2']) rfl ⟨_, _, _, half, (rest.set 0 x), _, rfl, (Sx.of HT.out.s).mono (Nat.le_succ _), (Sx.of HT.out.d).mono (Nat.le_succ _), HT.out.s.fits, HT.out.d.fits, (by have := Hl1.out; have := Hl2.out; simp only [List.length_set]; omega), Hat.out, HSr.out, HGr.out⟩
        · have b3 : (r == 3) = false := by simpa using k3
          clear k0 k1 k2 k3
          have Hat : Hid (at2 + 1 ≤ at' + 110) := by show _ ≤ _; have := Hat1.out; omega
          have HDw := HD
          clear HD
          have HG := hid (grown_set3 W w.heap.size (.int .i64 s) (.slice (some ⟨gh, 0, none⟩) m c1) (.slice (some ⟨gr, 0, none⟩) m c2))
          have HT := hid (HDw.out.tw.over (Nat.lt_succ_self _) HG.out)
          have HSr := hid (src_grown HDw.out.src HG.out (fun j e => by cases e; omega))
          have HGr : Hid (w.grownBy (((W.setCell ⟨w.heap.size, 0, none⟩ (.int .i64 s)).setCell ⟨w.heap.size, 1, none⟩ (.slice (some ⟨gh, 0, none⟩) m c1)).setCell ⟨w.heap.size, 2, none⟩ (.slice (some ⟨gr, 0, none⟩) m c2)) (some g)) :=
            ⟨HDw.out.k.os, HDw.out.k.tape, HDw.out.k.output, Nat.le_trans HDw.out.k.size HG.out.size, fun j hj hne => by rw [HG.out.block j (Nat.lt_of_lt_of_le hj HDw.out.k.size) (by simp; omega), HDw.out.k.block j hj hne]⟩
          obtain ⟨l0, l1, l2, lf0, lf1, lf2⟩ := HDw.out.l.three
          obtain ⟨r0, r1, r2', f0, f1, f2⟩ := HDw.out.r.three
          clear HDw HG
          go_wp2
          exact bodyPost_ret (v := .agg #[.int .i64 s, (.slice (some ⟨gh, 0, none⟩) m c1), (.slice (some ⟨gr, 0, none⟩) m c2)]) (by simp [results, Tryd.results58, go_sem, r0, r1, r2']) rfl ⟨_, _, _, half, rest, _, rfl, (Sx.of HT.out.s).mono (Nat.le_succ _), (Sx.of HT.out.d).mono (Nat.le_succ _), HT.out.s.fits, HT.out.d.fits, (by have := Hl1.out; have := Hl2.out; omega), Hat.out, HSr.out, HGr.out⟩
end Go.Proofs.YtgnbailcibhenaaDoor.DrwF

namespace Go.Proofs.YtgnbailcibhenaaDoor.DrwG
open Go.ChangeShapes Go.WideShapes Go.ChangeAt Go.RowKit Go.Proofs.YtgnbailcibhenaaDoor.Num Go.Proofs.YtgnbailcibhenaaDoor.Sli Go.Proofs.YtgnbailcibhenaaDoor.App Go.Proofs.YtgnbailcibhenaaDoor.Samp Go.Proofs.YtgnbailcibhenaaDoor.Blk Go.Proofs.YtgnbailcibhenaaDoor.LapM Go.Proofs.YtgnbailcibhenaaDoor.LapN Go.Proofs.YtgnbailcibhenaaDoor.IntL Go.Proofs.YtgnbailcibhenaaDoor.LapS Go.Proofs.YtgnbailcibhenaaDoor.Src Go.Proofs.YtgnbailcibhenaaDoor.Lists Go.Proofs.YtgnbailcibhenaaDoor.Samples Go.Proofs.YtgnbailcibhenaaDoor.Draws Go.Proofs.YtgnbailcibhenaaDoor.DrwF

set_option maxRecDepth 100000 in
set_option maxHeartbeats 4000000 in
theorem drawFeed_calls (a : Option Addr) (cap : Nat) (bs : List Int) (w : World) (hsl : Sl .u8 w (.slice a bs.length cap) bs) (hbd : ∀ x ∈ bs, 0 ≤ x ∧ x ≤ 255) (hlen : bs.length ≤ 1048576) :
    Calls Tryd.prog 16 #[.slice a bs.length cap] w fun e w' => ∃ s u t half rest f fr, e = .returned (.tuple #[.agg #[.int .i64 s, u, t], f]) ∧ Sl .i64 w' u half ∧ Sl .i64 w' t rest ∧ Sl .i64 w' f fr ∧ Fits u ∧ Fits t ∧ Fits f ∧ (half.length ≤ 16 ∧ rest.length ≤ 16 ∧ fr.length ≤ 21) ∧ Below w.heap.size w w' := by
  have hb0 := bmore (Below.refl _ w) (.cells #[.int .i64 0, .slice none 0 0, .slice none 0 0] 29)
  have HS := hid (l1Source_calls a cap bs (w.alloc (.cells #[.int .i64 0, .slice none 0 0, .slice none 0 0] 29)) (w.alloc (.cells #[.int .i64 0, .slice none 0 0, .slice none 0 0] 29)) (Below.refl _ _) (hsl.later hb0) hbd hlen)
  have HR := hid (Blk.new w #[.int .i64 0, .slice none 0 0, .slice none 0 0] 29)
  have HB := hid hb0
  have hsz0 : (w.alloc (.cells #[.int .i64 0, .slice none 0 0, .slice none 0 0] 29)).heap.size = w.heap.size + 1 := World.size_alloc _ _
  clear hsl hbd hlen hb0
  go_enter Tryd.func16, Tryd.ntmps16
  go_wp2_with fail
  generalize w.alloc (.cells #[.int .i64 0, .slice none 0 0, .slice none 0 0] 29) = w1 at *
  refine HS.out.mono ?_
  rintro e w2 ⟨g, rfl, hs2, hz2⟩
  have Hs2 := hid hs2
  clear hs2 HS
  have hg2 := src_lt Hs2.out
  have hgw : w1.heap.size ≤ g := Hs2.out.1
  go_wp2_with fail
  refine (l7Bent_calls w1 _ g a cap bs _ Hs2.out (by omega)).mono ?_
  rintro e w3 ⟨s, u, t, half, rest, at2, rfl, hu, ht, fu, ft, hl, hat2, hs3, hg3⟩
  obtain ⟨au, cu, rfl, -⟩ := id hu
  obtain ⟨av, cv, rfl, -⟩ := id ht
  have ha := bmore (Below.refl w3.heap.size w3) (.cells #[.int .i64 s, .slice au half.length cu, .slice av rest.length cv] 29)
  have HU4 := hid (hu.kept (grown_below (r := none) ha) (fun _ e => by cases e))
  have HT4 := hid (ht.kept (grown_below (r := none) ha) (fun _ e => by cases e))
  have HL4 := hid (Blk.new w3 #[.int .i64 s, .slice au half.length cu, .slice av rest.length cv] 29)
  have HS4 := hid (src_grown (row := none) hs3 (grown_below ha) (fun _ e => by cases e))
  have hz3 := hg3.size
  have Hf := hid (And.intro fu ft)
  have Hl := hid hl
  have Hat := hid hat2
  clear hu ht fu ft hl hat2 hs3 hg3 ha Hs2
  go_wp2_with fail
  have hL4 : w3.heap.size < (w3.alloc (.cells #[.int .i64 s, .slice au half.length cu, .slice av rest.length cv] 29)).heap.size := by simp
  generalize (w3.alloc (.cells #[.int .i64 s, .slice au half.length cu, .slice av rest.length cv] 29)) = w4 at *
  have hLR : w3.heap.size ≠ w.heap.size := by omega
  have hLg : w3.heap.size ≠ g := by omega
  generalize w3.heap.size = L at *
  obtain ⟨l0, l1, l2, _⟩ := HL4.out.three
  have hS0 : w4.drew.cell? ⟨L, 0, none⟩ = some (.int .i64 s) ∧ w4.drew.cell? ⟨L, 1, none⟩ = some (.slice au half.length cu) ∧ w4.drew.cell? ⟨L, 2, none⟩ = some (.slice av rest.length cv) := ⟨l0, l1, l2⟩
  have HSd := hid (DrwF.src_drew HS4.out)
  refine wp_region_noPanic ?_
  refine wp_region_held_drew (S := fun V => V.cell? ⟨L, 0, none⟩ = some (.int .i64 s) ∧ V.cell? ⟨L, 1, none⟩ = some (.slice au half.length cu) ∧ V.cell? ⟨L, 2, none⟩ = some (.slice av rest.length cv)) (by kernel_rfl) (by first | exact hS10 | exact hS9 | exact hS0) (fun hHeld => ?_)
  (refine wpAnyH_take (i := 0) (v := ?_) rfl (by kernel_rfl) (by kernel_rfl) (by kernel_rfl) (fun _ _ _ h => h) (Or.inl ⟨by rfl, ?_⟩) hHeld ?_; rotate_left; (intro w hSw; (obtain ⟨s0, s1, s2⟩ := hSw); (go_simp <;> with_reducible rfl)); simp only [List.getElem_toArray, List.getElem_cons_zero, Act.put, List.setIfInBounds_toArray, List.set_cons_zero, List.set_cons_succ])
  (refine wpAnyH_take (i := 1) (v := ?_) rfl (by kernel_rfl) (by kernel_rfl) (by kernel_rfl) (fun _ _ _ h => h) (Or.inl ⟨by rfl, ?_⟩) hHeld ?_; rotate_left; (intro w hSw; (obtain ⟨s0, s1, s2⟩ := hSw); (go_simp <;> with_reducible rfl)); simp only [List.getElem_toArray, List.getElem_cons_zero, List.getElem_cons_succ, Act.put, List.setIfInBounds_toArray, List.set_cons_zero, List.set_cons_succ])
  (refine wpAnyH_take (i := 2) (v := ?_) rfl (by kernel_rfl) (by kernel_rfl) (by kernel_rfl) (fun _ _ _ h => h) (Or.inl ⟨by rfl, ?_⟩) hHeld ?_; rotate_left; (intro w hSw; (obtain ⟨s0, s1, s2⟩ := hSw); (go_simp <;> with_reducible rfl)); simp only [List.getElem_toArray, List.getElem_cons_zero, List.getElem_cons_succ, Act.put, List.setIfInBounds_toArray, List.set_cons_zero, List.set_cons_succ])
  (refine wpAnyH_take (i := 3) (v := ?_) rfl (by kernel_rfl) (by kernel_rfl) (by kernel_rfl) (fun _ _ _ h => h) (Or.inl ⟨by rfl, ?_⟩) hHeld ?_; rotate_left; (intro w hSw; (obtain ⟨s0, s1, s2⟩ := hSw); (go_simp <;> with_reducible rfl)); simp only [List.getElem_toArray, List.getElem_cons_zero, List.getElem_cons_succ, Act.put, List.setIfInBounds_toArray, List.set_cons_zero, List.set_cons_succ])
  refine wpAnyH_ready (rs := [4]) (by kernel_rfl) (by simp) ?_
  refine (AllReadyH.cons rfl (fun K hK => ?_) AllReadyH.nil)
  go_simp
  (refine (l1BentSamples_calls w1 w4.drew g a cap bs _ s HSd.out (by have := Hat.out; omega)).mono ?_; rintro e W9 ⟨gl, cl, ys, at3, rfl, ho9, hy9, _, hs9, hg9⟩; have ho9' : OwI w4.drew.heap.size W9 (.slice (some ⟨gl, 0, none⟩) ys.length cl) ys := ho9; have hL9 := Blk.kept (show Blk w4.drew L _ _ from HL4.out) hg9 (by simp; omega); have hS9 := And.intro hL9.three.1 (And.intro hL9.three.2.1 hL9.three.2.2.1); have hR9 := HR.out.later hs9.2.1; obtain ⟨r0, r1, r2, f0, f1, f2⟩ := hR9.three; have hU9 := Sx.kept (w := w4.drew) HU4.out hg9 (fun j e => by cases e; omega); have hT9 := Sx.kept (w := w4.drew) HT4.out hg9 (fun j e => by cases e; omega))
  refine hK.out _ _ (by first | exact hS10 | exact hS9 | exact hS0) (fun hHeld => ?_)
  clear hK K
  try dsimp only
  refine wpAnyH_ready (rs := [5]) (by kernel_rfl) (by simp) ?_
  refine (AllReadyH.cons rfl (fun K hK => ?_) AllReadyH.nil)
  go_simp
  (have hL10 := ((hL9.other (b' := w.heap.size) (Ne.symm hLR) 0 (.int .i64 s)).other (b' := w.heap.size) (Ne.symm hLR) 1 (.slice au half.length cu)).other (b' := w.heap.size) (Ne.symm hLR) 2 (.slice av rest.length cv); have hS10 := And.intro hL10.three.1 (And.intro hL10.three.2.1 hL10.three.2.2.1))
  refine hK.out _ _ (by first | exact hS10 | exact hS9 | exact hS0) (fun hHeld => ?_)
  clear hK K
  try simp only [List.getElem_toArray, List.getElem_cons_zero, List.getElem_cons_succ, Act.put, List.setIfInBounds_toArray, List.set_cons_zero, List.set_cons_succ]
  (refine wpAnyH_take (i := 6) (v := ?_) rfl (by kernel_rfl) (by kernel_rfl) (by kernel_rfl) (fun _ _ _ h => h) (Or.inl ⟨by rfl, ?_⟩) hHeld ?_; rotate_left; (intro w hSw; (obtain ⟨s0, s1, s2⟩ := hSw); (go_simp <;> with_reducible rfl)); simp only [List.getElem_toArray, List.getElem_cons_zero, List.getElem_cons_succ, Act.put, List.setIfInBounds_toArray, List.set_cons_zero, List.set_cons_succ])
  refine wpAnyH_done (by kernel_rfl) ?_ _
  refine NoPanic.normal ?_
  have hg10 := grown_set3 W9 w.heap.size (.int .i64 s) (.slice au half.length cu) (.slice av rest.length cv)
  have HU10 := hid (hU9.kept hg10 (fun j e => by cases e; omega)).sl
  have HT10 := hid (hT9.kept hg10 (fun j e => by cases e; omega)).sl
  have HF10 := hid (ho9'.over (show w.heap.size < w4.heap.size by omega) hg10)
  have HB10 := hid (below_cell (below_cell (below_cell (bthen HB.out hs9.2.1) (Nat.le_refl _) 0 (.int .i64 s)) (Nat.le_refl _) 1 (.slice au half.length cu)) (Nat.le_refl _) 2 (.slice av rest.length cv))
  clear hL9 hL10 hS0 hS9 hS10 hR9 hU9 hT9 ho9 ho9' hs9 hg9 hg10 HL4 HSd HS4 HU4 HT4 HR
  go_wp2
  exact bodyPost_ret (v := .tuple #[.agg #[.int .i64 s, .slice au half.length cu, .slice av rest.length cv], .slice (some ⟨gl, 0, none⟩) ys.length cl]) (by simp [results, Tryd.results16, go_sem, r0, r1, r2]) rfl ⟨_, _, _, half, rest, _, ys, rfl, HU10.out, HT10.out, HF10.out.sl, Hf.out.1, Hf.out.2, HF10.out.fits, ⟨Hl.out.1, Hl.out.2.1, hy9⟩, HB10.out⟩
end Go.Proofs.YtgnbailcibhenaaDoor.DrwG

namespace Go.Proofs.YtgnbailcibhenaaDoor.DrwH
open Go.ChangeShapes Go.WideShapes Go.ChangeAt Go.RowKit Go.Proofs.YtgnbailcibhenaaDoor.Num Go.Proofs.YtgnbailcibhenaaDoor.Sli Go.Proofs.YtgnbailcibhenaaDoor.App Go.Proofs.YtgnbailcibhenaaDoor.Samp Go.Proofs.YtgnbailcibhenaaDoor.SampF Go.Proofs.YtgnbailcibhenaaDoor.Blk Go.Proofs.YtgnbailcibhenaaDoor.TurM Go.Proofs.YtgnbailcibhenaaDoor.HalM Go.Proofs.YtgnbailcibhenaaDoor.LapM Go.Proofs.YtgnbailcibhenaaDoor.LapN Go.Proofs.YtgnbailcibhenaaDoor.IntL Go.Proofs.YtgnbailcibhenaaDoor.OwsG Go.Proofs.YtgnbailcibhenaaDoor.LapS Go.Proofs.YtgnbailcibhenaaDoor.LapU Go.Proofs.YtgnbailcibhenaaDoor.LapV Go.Proofs.YtgnbailcibhenaaDoor.Src Go.Proofs.YtgnbailcibhenaaDoor.Lists Go.Proofs.YtgnbailcibhenaaDoor.Samples Go.Proofs.YtgnbailcibhenaaDoor.Draws Go.Proofs.YtgnbailcibhenaaDoor.DrwF

/-- What the draw of a synth keeps: the answer's block, the synth's and the lap's block and their lists, the source. -/
structure SD (w0 w : World) (g : Nat) (a : Option Addr) (cap : Nat) (bs : List Int) (R Y L : Nat) (s : Int) (p q u t : Value) (head tail half rest : List Int) (at' : Nat) (W : World) : Prop where
  r : Blk W R #[.int .i64 0, .slice none 0 0, .slice none 0 0] 34
  y : Blk W Y #[.int .i64 s, p, q] 34
  l : Blk W L #[.int .i64 s, u, t] 29
  ty : TW (w.heap.size + 1) p q head tail W
  tl : TW (w.heap.size + 1) u t half rest W
  src : Src w0 W g a cap bs at'
  k : w.grownBy W (some g)
  nb : ∀ j, Ob [p, q, u, t] j → j ≠ R ∧ j ≠ Y ∧ j ≠ L
  nm : R ≠ Y ∧ R ≠ L ∧ Y ≠ L ∧ w.heap.size ≤ R ∧ w.heap.size ≤ Y ∧ w.heap.size ≤ L ∧ g < w.heap.size
section
variable {w0 w W W' : World} {g : Nat} {a : Option Addr} {cap : Nat} {bs : List Int} {R Y L : Nat} {s : Int} {p q u t : Value} {head tail half rest : List Int} {at' at2 : Nat}
theorem SD.next (h : SD w0 w g a cap bs R Y L s p q u t head tail half rest at' W) (hs : Src w0 W' g a cap bs at2) (hg : W.grownBy W' (some g)) : SD w0 w g a cap bs R Y L s p q u t head tail half rest at2 W' := by
  obtain ⟨n1, n2, n3, n4, n5, n6, n7⟩ := h.nm
  exact ⟨h.r.kept hg (by simp; omega), h.y.kept hg (by simp; omega), h.l.kept hg (by simp; omega), h.ty.over (by omega) hg, h.tl.over (by omega) hg, hs, grown_same h.k hg, h.nb, h.nm⟩
theorem SD.later (h : SD w0 w g a cap bs R Y L s p q u t head tail half rest at' W) (hb : Below W.heap.size W W') : SD w0 w g a cap bs R Y L s p q u t head tail half rest at' W' :=
  h.next (src_grown (row := none) h.src (grown_below hb) (fun _ e => by cases e)) (grown_below hb)
theorem tw_ne {base X : Nat} {v v' : Value} {S D : List Int} (h : TW base v v' S D W) (hg : W.grownBy W' (some X)) (hn : ∀ j, Ob [v, v'] j → j ≠ X) : TW base v v' S D W' :=
  ⟨IntA.Ow.keptNe h.s hg (fun j e => by cases e; intro e2; exact hn X ⟨_, List.mem_cons_self .., e2⟩ rfl), IntA.Ow.keptNe h.d hg (fun j e => by cases e; intro e2; exact hn X ⟨_, List.mem_cons_of_mem _ (List.mem_cons_self ..), e2⟩ rfl), h.ne⟩
theorem far_k {X : Nat} (h : w.grownBy W (some g)) (hX : w.heap.size ≤ X) (hg : W.grownBy W' (some X)) : w.grownBy W' (some g) :=
  ⟨hg.os.trans h.os, hg.tape.trans h.tape, hg.output.trans h.output, Nat.le_trans h.size hg.size, fun j hj hne => by rw [hg.block j (Nat.lt_of_lt_of_le hj h.size) (by simp; omega), h.block j hj hne]⟩
theorem ob_pq {j : Nat} (h : Ob [p, q] j) : Ob [p, q, u, t] j := h.sub (.cons_cons _ (.cons_cons _ (List.nil_sublist _)))
theorem ob_ut {j : Nat} (h : Ob [u, t] j) : Ob [p, q, u, t] j := h.sub (.cons _ (.cons _ (List.Sublist.refl _)))
theorem ob_or {j : Nat} (h : Ob [p, q, u, t] j) : Ob [p, q] j ∨ Ob [u, t] j := by
  obtain ⟨v, hv, e⟩ := h
  rcases List.mem_cons.1 hv with rfl | hv
  · exact .inl ⟨_, List.mem_cons_self .., e⟩
  · rcases List.mem_cons.1 hv with rfl | hv
    · exact .inl ⟨_, List.mem_cons_of_mem _ (List.mem_cons_self ..), e⟩
    · exact .inr ⟨v, hv, e⟩
theorem tw_blocks {base : Nat} {v v' : Value} {S D : List Int} (h : TW base v v' S D W) {j : Nat} (hj : Ob [v, v'] j) : base ≤ j ∧ j < W.heap.size := (OWS.two h.s h.d h.ne).blocks hj
/-- The lap is replaced by another one, made since; so is the synth. -/
theorem SD.putL {u' t' : Value} {half' rest' : List Int} {base : Nat} (h : SD w0 w g a cap bs R Y L s p q u t head tail half rest at' W) (hl : L < base ∧ Y < base ∧ R < base) (hw : w.heap.size + 1 ≤ base) (ht : TW base u' t' half' rest' W) (hw0 : w0.heap.size ≤ g) :
    SD w0 w g a cap bs R Y L s p q u' t' head tail half' rest' at' (((W.setCell ⟨L, 0, none⟩ (.int .i64 s)).setCell ⟨L, 1, none⟩ u').setCell ⟨L, 2, none⟩ t') := by
  obtain ⟨n1, n2, n3, n4, n5, n6, n7⟩ := h.nm
  have hg := grown_set3 W L (.int .i64 s) u' t'
  refine ⟨h.r.kept hg (by simp; omega), h.y.kept hg (by simp; omega), ((h.l.set 0 _).set 1 _).set 2 _, tw_ne h.ty hg (fun j e => (h.nb j (ob_pq e)).2.2), (ht.over hl.1 hg).mono hw, src_grown h.src hg (fun j e => by cases e; omega), far_k h.k n6 hg, fun j e => ?_, h.nm⟩
  rcases ob_or e with e | e
  · exact h.nb j (ob_pq e)
  · have := tw_blocks ht e; omega
theorem SD.putY {p' q' : Value} {head' tail' : List Int} {base : Nat} (h : SD w0 w g a cap bs R Y L s p q u t head tail half rest at' W) (hl : L < base ∧ Y < base ∧ R < base) (hw : w.heap.size + 1 ≤ base) (ht : TW base p' q' head' tail' W) (hw0 : w0.heap.size ≤ g) :
    SD w0 w g a cap bs R Y L s p' q' u t head' tail' half rest at' (((W.setCell ⟨Y, 0, none⟩ (.int .i64 s)).setCell ⟨Y, 1, none⟩ p').setCell ⟨Y, 2, none⟩ q') := by
  obtain ⟨n1, n2, n3, n4, n5, n6, n7⟩ := h.nm
  have hg := grown_set3 W Y (.int .i64 s) p' q'
  refine ⟨h.r.kept hg (by simp; omega), ((h.y.set 0 _).set 1 _).set 2 _, h.l.kept hg (by simp; omega), (ht.over hl.2.1 hg).mono hw, tw_ne h.tl hg (fun j e => (h.nb j (ob_ut e)).2.1), src_grown h.src hg (fun j e => by cases e; omega), far_k h.k n5 hg, fun j e => ?_, h.nm⟩
  rcases ob_or e with e | e
  · have := tw_blocks ht e; omega
  · exact h.nb j (ob_ut e)
end
/-- What is fed by a right lap is played by a right synth. -/
theorem fed_plays {s : Int} {head tail half rest fr : List Int} (hf : fdC s half rest fr = 0) (hy : syC s head tail = 0) : plC s head tail (fdK s half rest fr) = 0 := by
  obtain ⟨r1, r2, r3⟩ := fed_right hf
  obtain ⟨hz, _⟩ := lf_ok r1
  obtain ⟨h3, e1, _⟩ := sz_nat hz
  have hg : gbC (fdK s half rest fr) = 0 := by
    unfold gbC
    rw [r2, if_pos h3, if_pos (show (fdK s half rest fr).all coB = true from (lim_all (M := 16777216) (by omega)).2 (r3.mono (by omega)))]
  unfold plC; rw [if_pos hy, if_pos (by rw [r2]; exact e1)]; exact hg
set_option maxRecDepth 100000 in
set_option maxHeartbeats 4000000 in
theorem l7Synth_calls (w0 w : World) (g : Nat) (a : Option Addr) (cap : Nat) (bs : List Int) (at' : Nat) (h : Src w0 w g a cap bs at') (hat : at' ≤ 5000) :
    Calls Tryd.prog 99 #[.pointer (some ⟨g, 0, none⟩)] w fun e w' => ∃ s p q head tail at2, e = .returned (.agg #[.int .i64 s, p, q]) ∧ syC s head tail = 0 ∧ TW w.heap.size p q head tail w' ∧ at2 ≤ at' + 130 ∧ Src w0 w' g a cap bs at2 ∧ w.grownBy w' (some g) := by
  have hgw := src_lt h
  have hw0g : w0.heap.size ≤ g := h.1
  have hb0 := bmore (Below.refl _ w) (.cells #[.int .i64 0, .slice none 0 0, .slice none 0 0] 34)
  have HS0 := hid (src_grown (row := none) h (grown_below hb0) (fun _ e => by cases e))
  have HR0 := hid (Blk.new w #[.int .i64 0, .slice none 0 0, .slice none 0 0] 34)
  have HG0 := hid (grown_below (r := some g) hb0)
  have hsz0 : (w.alloc (.cells #[.int .i64 0, .slice none 0 0, .slice none 0 0] 34)).heap.size = w.heap.size + 1 := World.size_alloc _ _
  clear h hb0
  go_enter Tryd.func99, Tryd.ntmps99
  go_wp2_with fail
  generalize w.alloc (.cells #[.int .i64 0, .slice none 0 0, .slice none 0 0] 34) = w1 at *
  refine (l1Size_calls w0 _ g a cap bs _ HS0.out (by omega)).mono ?_
  rintro e w2 ⟨s, rfl, hz, hs2, hg2⟩
  have HS2 := hid hs2
  have HR2 := hid (HR0.out.kept hg2 (by simp; omega))
  have HG2 := hid (grown_same HG0.out hg2)
  have hsz2 : w.heap.size + 1 ≤ w2.heap.size := by have := hg2.size; omega
  have Hz := hid hz
  clear hs2 hg2 HS0 HR0 HG0
  go_wp2_with fail
  refine (l7NewSynth_calls s _ hz).mono ?_
  rintro e w3 ⟨p, q, rfl, ht3, hb3⟩
  obtain ⟨ap, cp, rfl, -⟩ := ht3.s.sl
  obtain ⟨aq, cq, rfl, -⟩ := ht3.d.sl
  have ha3 := bmore (Below.refl w3.heap.size w3) (.cells #[.int .i64 s, .slice ap (List.replicate (hN s) (0 : Int)).length cp, .slice aq (List.replicate (hN s) (0 : Int)).length cq] 34)
  have hba := bthen hb3 ha3
  have HS4 := hid (src_grown (row := none) HS2.out (grown_below hba) (fun _ e => by cases e))
  have HR4 := hid (HR2.out.later hba)
  have HG4 := hid (grown_same HG2.out (grown_below (r := some g) hba))
  have HT4 := hid (ht3.later ha3)
  have HY4 := hid (Blk.new w3 #[.int .i64 s, .slice ap (List.replicate (hN s) (0 : Int)).length cp, .slice aq (List.replicate (hN s) (0 : Int)).length cq] 34)
  have HB4 : Hid (∀ j, Ob [.slice ap (List.replicate (hN s) (0 : Int)).length cp, .slice aq (List.replicate (hN s) (0 : Int)).length cq] j → w2.heap.size ≤ j ∧ j < w3.heap.size) := fun j e => tw_blocks ht3 e
  have hsz3 := hb3.size
  have hsz4 : (w3.alloc (.cells #[.int .i64 s, .slice ap (List.replicate (hN s) (0 : Int)).length cp, .slice aq (List.replicate (hN s) (0 : Int)).length cq] 34)).heap.size = w3.heap.size + 1 := World.size_alloc _ _
  clear ht3 hb3 ha3 hba HS2 HR2 HG2
  obtain ⟨y0, y1, y2, _⟩ := HY4.out.three
  rw [List.length_replicate] at *
  go_wp2_with fail
  generalize (w3.alloc (.cells #[.int .i64 s, .slice ap (hN s) cp, .slice aq (hN s) cq] 34)) = w4 at *
  refine (l7New_calls s _ hz).mono ?_
  rintro e w5 ⟨u, t, rfl, ht5, hb5⟩
  obtain ⟨au, cu, rfl, -⟩ := ht5.s.sl
  obtain ⟨av, cv, rfl, -⟩ := ht5.d.sl
  rw [List.length_replicate] at *
  have HD6 : Hid (∃ (p q u t : Value) (head tail half rest : List Int), lfC s half rest = 0 ∧ syC s head tail = 0 ∧ SD w0 w g a cap bs w.heap.size w3.heap.size w5.heap.size s p q u t head tail half rest (at' + 1) (w5.alloc (.cells #[.int .i64 s, .slice au (hN s) cu, .slice av (hN s) cv] 29))) := by
    have ha := bmore (Below.refl w5.heap.size w5) (.cells #[.int .i64 s, .slice au (hN s) cu, .slice av (hN s) cv] 29)
    have hba := bthen hb5 ha
    have hs5 := hb5.size
    have hbl5 : ∀ j, Ob [.slice au (hN s) cu, .slice av (hN s) cv] j → w4.heap.size ≤ j ∧ j < w5.heap.size := fun j e => tw_blocks ht5 e
    refine ⟨_, _, _, _, _, _, _, _, lf_yes hz (by simp) (by simp) (fun i => by rw [zero_get]; omega) (smL_zero _), sy_yes hz (by simp) (by simp) (fun i => by rw [zero_get]; omega) (fun i => by rw [zero_get]; omega), HR4.out.later hba, HY4.out.later hba, Blk.new _ _ _, (HT4.out.later hba).mono (by omega), (ht5.later ha).mono (by omega), src_grown (row := none) HS4.out (grown_below hba) (fun _ e => by cases e), grown_same HG4.out (grown_below hba), fun j e => ?_, by omega⟩
    rcases ob_or e with e | e
    · have := HB4.out j e; omega
    · have := hbl5 j e; omega
  clear ht5 hb5 HS4 HR4 HG4 HT4 HY4 HB4 y0 y1 y2
  go_wp2_with fail
  generalize (w5.alloc (.cells #[.int .i64 s, .slice au (hN s) cu, .slice av (hN s) cv] 29)) = w6 at *
  generalize w5.heap.size = L at *
  generalize w3.heap.size = Y at *
  obtain ⟨p, q, u, t, head, tail, half, rest, hc, hy, hD⟩ := HD6.out
  refine (l1Next_calls w0 _ g a cap bs _ 4 hD.src (by omega) (by omega) (by omega)).mono ?_
  rintro e w7 ⟨n, rfl, hn0, hn4, hs7, hg7⟩
  have HD7 : Hid (∃ (p q u t : Value) (head tail half rest : List Int) (at2 : Nat), lfC s half rest = 0 ∧ syC s head tail = 0 ∧ at2 ≤ at' + 2 + (3 - n.toNat) * 31 ∧ SD w0 w g a cap bs w.heap.size Y L s p q u t head tail half rest at2 w7) := ⟨_, _, _, _, _, _, _, _, _, hc, hy, by omega, hD.next hs7 hg7⟩
  clear hs7 hg7 hD HD6 hc hy p q u t head tail half rest
  obtain ⟨i, rfl⟩ := Int.eq_ofNat_of_zero_le hn0
  rw [Int.toNat_natCast] at HD7
  have hi3 : i < 4 := by omega
  have hsi : 4 ≤ s ∧ s ≤ 16 ∧ (s.toNat : Int) = s ∧ s.toNat ≤ 20 := by rcases sz_cases Hz.out with rfl | rfl | rfl <;> decide
  clear hn0 hn4 hz
  have HSa := hid (fun W at2 (hs : Src w0 W g a cap bs at2) (q : at2 ≤ 10000) => l1Samples_calls w0 W g a cap bs at2 s.toNat hs q hsi.2.2.2)
  rw [hsi.2.2.1] at HSa
  clear hsz0 hsz2 hsz3 hsz4
  go_wp2
  go_loopw [5] (fun n wr => ∃ i : Nat, n = .int .i64 (i : Int) ∧ i < 4 ∧ Hid (∃ (p q u t : Value) (head tail half rest : List Int) (at2 : Nat), lfC s half rest = 0 ∧ syC s head tail = 0 ∧ at2 ≤ at' + 2 + (3 - i) * 31 ∧ SD w0 w g a cap bs w.heap.size Y L s p q u t head tail half rest at2 wr)) (fun n _ => (intOf n).toNat)
  case atStart => exact ⟨i, rfl, hi3, HD7⟩
  case round =>
    clear HD7 hi3
    obtain ⟨j, rfl, hj, HD⟩ := hrel
    by_cases hlt : 0 < j
    · obtain ⟨p, q, u, t, head, tail, half, rest, at2, hc, hy, hat2, hD⟩ := HD.out
      have ha := bmore (Below.refl wr.heap.size wr) (.cells #[] 2)
      have HDD := hid (hD.later ha)
      have Hc := hid hc
      have Hy := hid hy
      have Hat := hid hat2
      have hjI : (0 : Int) < (j : Int) := by omega
      obtain ⟨l0, l1, l2, _⟩ := hD.l.three
      have hlL := hD.l.lt
      clear HD hD hc hy hat2 ha
      go_wp2_with fail
      generalize (wr.alloc (.cells #[] 2)) = wa at *
      refine (HSa.out _ _ HDD.out.src (by have := Hat.out; omega)).mono ?_
      rintro e w8 ⟨gl, cl, ys, at3, rfl, ho8, hn8, hy8, hat3, hs8, hg8⟩
      have hfd : fdC s half rest ys = 0 := by unfold fdC; rw [if_pos Hc.out]; exact sm_yes Hz.out (by omega) (smL_of hy8)
      have ho8' : OwI wa.heap.size w8 (.slice (some ⟨gl, 0, none⟩) ys.length cl) ys := ho8
      have HO8 := hid ho8'
      have HD8 := hid (HDD.out.next hs8 hg8)
      have Hat3 : Hid (at3 ≤ at' + 2 + (3 - (j - 1)) * 31) := by show _ ≤ _; have := Hat.out; omega
      have HF := hid hfd
      have HPl := hid (fed_plays hfd Hy.out)
      clear ho8 ho8' hn8 hy8 hat3 hs8 hg8 HDD hfd Hc Hat Hy l0 l1 l2 hlL
      go_wp2_with fail
      refine (l7Feed_calls L s u t _ half rest ys _ HD8.out.l HD8.out.tl.s.sl HD8.out.tl.d.sl HO8.out.sl HO8.out.fits HF.out).mono ?_
      rintro e w9 ⟨u', t', k', rfl, ht9, hk9, hb9⟩
      have HD9 := hid (HD8.out.later hb9)
      have hL8 : L < w8.heap.size ∧ Y < w8.heap.size ∧ w.heap.size < w8.heap.size := ⟨HD8.out.l.lt, HD8.out.y.lt, HD8.out.r.lt⟩
      obtain ⟨a1, c1, rfl, -⟩ := ht9.s.sl
      obtain ⟨a2, c2, rfl, -⟩ := ht9.d.sl
      obtain ⟨a3, c3, rfl, -⟩ := hk9.sl
      obtain ⟨l0, l1, l2, f0, f1, f2⟩ := HD9.out.l.three
      have HD10 := hid (HD9.out.putL hL8 (by omega) ht9 hw0g)
      have HK10 := hid (hk9.over hL8.1 (grown_set3 w9 L (.int .i64 s) (.slice a1 (fdH s rest ys).length c1) (.slice a2 (ys.drop (hN s)).length c2)))
      have Hc10 := hid (fed_right HF.out).1
      clear ht9 hk9 hb9 HD8 HD9 HF HO8
      generalize ys.drop (hN s) = rD at *
      generalize fdH s rest ys = rF at *
      generalize fdK s half rest ys = rK at *
      go_wp2_with fail
      generalize (((w9.setCell ⟨L, 0, none⟩ (.int .i64 s)).setCell ⟨L, 1, none⟩ (.slice a1 rF.length c1)).setCell ⟨L, 2, none⟩ (.slice a2 rD.length c2)) = w10 at *
      refine (l7Play_calls Y s p q _ head tail rK _ HD10.out.y HD10.out.ty.s.sl HD10.out.ty.d.sl HK10.out.sl HPl.out).mono ?_
      rintro e w11 ⟨p', q', f', rfl, ht11, hk11, hb11⟩
      have HD11 := hid (HD10.out.later hb11)
      have hL10 : L < w10.heap.size ∧ Y < w10.heap.size ∧ w.heap.size < w10.heap.size := ⟨HD10.out.l.lt, HD10.out.y.lt, HD10.out.r.lt⟩
      obtain ⟨a4, c4, rfl, -⟩ := ht11.s.sl
      obtain ⟨a5, c5, rfl, -⟩ := ht11.d.sl
      obtain ⟨m0, m1, m2, g0, g1, g2⟩ := HD11.out.y.three
      have HD12 := hid (HD11.out.putY hL10 (by omega) ht11 hw0g)
      have Hy12 := hid (played_right HPl.out).1
      obtain ⟨a6, c6, rfl, -⟩ := hk11.sl
      clear ht11 hk11 hb11 HD10 HD11 HPl HK10 l0 l1 l2 f0 f1 f2
      generalize (plB s rK).drop (hN s) = rB at *
      generalize plH s tail rK = rH at *
      generalize head ++ plT s tail rK = rFr at *
      go_wp2
      go_roundw
      case rel => exact ⟨j - 1, by go_num, by omega, _, _, _, _, _, _, _, _, _, Hc10.out, Hy12.out, Hat3.out, HD12.out⟩
      case measure => simp [intOf]; omega
    · obtain rfl : j = 0 := by omega
      obtain ⟨p, q, u, t, head, tail, half, rest, at2, hc, hy, hat2, hD⟩ := HD.out
      obtain ⟨a1, c1, rfl, -⟩ := hD.ty.s.sl
      obtain ⟨a2, c2, rfl, -⟩ := hD.ty.d.sl
      have HDD := hid hD
      have Hy := hid hy
      have Hat : Hid (at2 ≤ at' + 130) := by show _ ≤ _; omega
      obtain ⟨l0, l1, l2, _⟩ := hD.y.three
      obtain ⟨r0, r1, r2, f0, f1, f2⟩ := hD.r.three
      clear HD hD hc hy hat2
      have HG := hid (grown_set3 wr w.heap.size (.int .i64 s) (.slice a1 head.length c1) (.slice a2 tail.length c2))
      have HT := hid ((HDD.out.ty.over (Nat.lt_succ_self _) HG.out).mono (Nat.le_succ _))
      have HSr := hid (src_grown HDD.out.src HG.out (fun j e => by cases e; omega))
      have HGr := hid (far_k HDD.out.k (Nat.le_refl _) HG.out)
      clear HDD HG
      go_wp2
      exact bodyPost_ret (v := .agg #[.int .i64 s, .slice a1 head.length c1, .slice a2 tail.length c2]) (by simp [results, Tryd.results99, go_sem, r0, r1, r2]) rfl ⟨_, _, _, _, _, _, rfl, Hy.out, HT.out, Hat.out, HSr.out, HGr.out⟩
end Go.Proofs.YtgnbailcibhenaaDoor.DrwH
