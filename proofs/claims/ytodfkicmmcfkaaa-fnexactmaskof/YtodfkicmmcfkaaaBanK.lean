/- The program's norms of bands and its mask: a band that is handed on as what takes its coefficients, lists of such, their norms. Conditions: lists of at most 1048576 numbers that fit their memory. -/
import Derived.Test.YtodfkicmmcfkaaaBanJ
import Derived.Deep.RegionHeld3
namespace Go.Proofs.Ytodfkicmmcfkaaa.BanK
open Go.ChangeShapes Go.WideShapes Go.ChangeAt Go.RowKit Go.Maps Go.Proofs.Ytodfkicmmcfkaaa.Num Go.Proofs.Ytodfkicmmcfkaaa.Div Go.Proofs.Ytodfkicmmcfkaaa.Samp Go.Proofs.Ytodfkicmmcfkaaa.Sli Go.Proofs.Ytodfkicmmcfkaaa.App Go.Proofs.Ytodfkicmmcfkaaa.Blk Go.Proofs.Ytodfkicmmcfkaaa.Norm Go.Proofs.Ytodfkicmmcfkaaa.IntL Go.Proofs.Ytodfkicmmcfkaaa.IntA Go.Proofs.Ytodfkicmmcfkaaa.HalM Go.Proofs.Ytodfkicmmcfkaaa.BloS Go.Proofs.Ytodfkicmmcfkaaa.BkI Go.Proofs.Ytodfkicmmcfkaaa.BanM Go.Proofs.Ytodfkicmmcfkaaa.BanN Go.Proofs.Ytodfkicmmcfkaaa.BaL Go.Proofs.Ytodfkicmmcfkaaa.BanT Go.Proofs.Ytodfkicmmcfkaaa.BanJ

theorem of_calls (f d : Nat) (b off n c : Nat) (l : List Int) (w : World) (h : Sl .i64 w (.slice (some ⟨b, off, none⟩) n c) l) (hfit : n ≤ c) (hn : n ≤ 1048576) (hf : f + d ≤ n) (hd : 1 ≤ d) :
    Calls Try.prog 39 #[.agg #[.int .i64 (f : Int), .int .i64 (d : Int)], .slice (some ⟨b, off, none⟩) n c] w fun e w' => ∃ c2 : Nat, e = .returned (.slice (some ⟨b, off + f, none⟩) d c2) ∧ Sl .i64 w' (.slice (some ⟨b, off + f, none⟩) d c2) (bdL l (f, d)) ∧ Below w.heap.size w w' := by
  have HB := hid (bmore (Below.refl _ w) (.cells #[.int .i64 (f : Int), .int .i64 (d : Int)] 40))
  have HS := hid (fun c2 => (sl_part (c2 := c2) h hf hd).later (bmore (Below.refl _ w) (.cells #[.int .i64 (f : Int), .int .i64 (d : Int)] 40)))
  clear h
  go_enter Try.func39, Try.ntmps39
  go_wp2
  go_ret
  refine ⟨c - f, ?_, HS.out _, HB.out⟩
  have e : Ending.returned (.slice (some ⟨b, off + f, none⟩) (f + d - f) (c - f)) = .returned (.slice (some ⟨b, off + f, none⟩) d (c - f)) := by rw [Nat.add_sub_cancel_left]
  exact e
/-- A band as what takes its coefficients; lists of such. -/
def fnB (b : B2) : Value := .func (.func 39) #[.agg #[.int .i64 b.1, .int .i64 b.2]] #[]
def OwC (base : Nat) (w : World) (v : Value) (ls : List B2) : Prop := w.ownsRow base 84 1 v ls.length (ls.map fnB)
def SlC (w : World) (v : Value) (ls : List B2) : Prop := ∃ b c, v = .slice (some ⟨b, 0, none⟩) ls.length c ∧ b < w.heap.size ∧ ∀ i, i < ls.length → w.cell? ⟨b, i, none⟩ = some (fnB (ls.getD i (0, 0)))
theorem SlC.keep {w w' : World} {v : Value} {ls : List B2} {n : Nat} (h : SlC w v ls) (hb : Below n w w') (hn : w.heap.size ≤ n) : SlC w' v ls := by
  obtain ⟨b, c, rfl, hlt, hcell⟩ := h
  exact ⟨b, c, rfl, Nat.lt_of_lt_of_le hlt (by have := hb.size; omega), fun i hi => (hb.cell (p := ⟨b, i, none⟩) (Nat.lt_of_lt_of_le hlt hn)).trans (hcell i hi)⟩
theorem OwC.slc {base : Nat} {w : World} {v : Value} {ls : List B2} (h : OwC base w v ls) (hne : ls ≠ []) : SlC w v ls := by
  rcases h.2 with ⟨rfl, h0⟩ | ⟨g, cap, cur, rfl, hb, hg, hle, hc, hs, ht⟩
  · cases ls with
    | nil => exact absurd rfl hne
    | cons => simp at h0
  · refine ⟨g, cap, rfl, (Array.getElem?_eq_some_iff.1 hg).1, fun i hi => ?_⟩
    have hx : (ls.map fnB)[i]? = some (fnB (ls.getD i (0, 0))) := by
      rw [List.getElem?_map, List.getElem?_eq_getElem hi, List.getD_eq_getElem?_getD, List.getElem?_eq_getElem hi]; rfl
    rw [← ht, List.getElem?_take_of_lt (by omega), Array.getElem?_toList] at hx
    simp [World.cell?, hg, hx]
theorem infoC : (Try.prog.info? 84).map (fun i => (i.zero, i.size, i.bytes)) = some (some .nilFunc, 1, 8) := by kernel_rfl
set_option maxRecDepth 100000 in
set_option maxHeartbeats 1000000 in
theorem cuts_calls (s : Int) (w : World) (hs : s = 4 ∨ s = 8 ∨ s = 16) :
    Calls Try.prog 37 #[.int .i64 s] w fun e w' => ∃ v, e = .returned v ∧ SlC w' v (bnL s) ∧ Below w.heap.size w w' := by
  have hmf : ∀ (fn : Fn) (first cap : Array Value) (w : World), (Instr.makeFunc fn first cap).run Try.prog w = .ok (.func fn first cap) w := fun _ _ _ _ => rfl
  obtain ⟨i0, hi, hz0, hz1, hz2⟩ := info_parts infoC
  have HBs := hid (fun W => bands_calls s W hs)
  have HL := hid (bn_len hs)
  have hbc := bc_or s
  clear hs
  generalize bnL s = L at *
  generalize bC s = m at *
  go_enter Try.func37, Try.ntmps37
  go_wp2_with fail
  refine (HBs.out _).mono ?_
  rintro e w1 ⟨g, c0, rfl, ho1, hb1⟩
  have HC := hid (fun j hj => (OwB.cells ho1 HL.out.symm j hj).1)
  have hg1 := hid (OwB.lt ho1 g rfl).2
  have HB1 := hid hb1
  clear ho1 hb1 HBs
  go_wp2_with fail
  go_loopw [3, 9] (fun o i wr => ∃ (k c : Nat) (a : Option Addr), o = .slice a k c ∧ i = .int .i64 (k : Int) ∧ k ≤ m ∧ Hid (OwC w1.heap.size wr (.slice a k c) (L.take k)) ∧ Hid (Below w1.heap.size w1 wr)) (fun _ i _ => m - (intOf i).toNat)
  case atStart => exact ⟨0, 0, none, rfl, rfl, Nat.zero_le _, ⟨rfl, .inl ⟨rfl, rfl⟩⟩, Below.refl _ _⟩
  case round =>
    obtain ⟨k, c, a, rfl, rfl, hk, ho, hb⟩ := hrel
    by_cases hlt : k < m
    · obtain ⟨c1, c2⟩ := HC.out k hlt
      have d1 := (hb.out.cell (p := ⟨g, k * 2, none⟩) hg1.out).trans c1
      have d2 := (hb.out.cell (p := ⟨g, k * 2 + 1, none⟩) hg1.out).trans c2
      have hlk : Hid ((L.take k).length = k) := by show _ = _; rw [List.length_take, HL.out]; omega
      have HTk : Hid (L.take (k + 1) = L.take k ++ [((L.getD k (0, 0)).1, (L.getD k (0, 0)).2)]) := by
        show _ = _
        rw [List.take_add_one, List.getD_eq_getElem?_getD, List.getElem?_eq_getElem (by rw [HL.out]; exact hlt)]; rfl
      have hrow : Hid (wr.ownsRow w1.heap.size 84 1 (.slice a k c) k ((L.take k).map fnB)) := by
        have q : wr.ownsRow w1.heap.size 84 1 (.slice a k c) (L.take k).length ((L.take k).map fnB) := ho.out
        rw [hlk.out] at q
        exact q
      have hro : Hid (∀ o o', ((wr.alloc o).alloc o').ownsRow w1.heap.size 84 1 (.slice a k c) k ((L.take k).map fnB)) := fun o o' => World.ownsRow.kept (row := none) hrow.out ⟨rfl, rfl, rfl, by simp; omega, fun j hj _ => (Below.heap_alloc (wr.alloc o) o' j (by simp; omega)).trans (Below.heap_alloc wr o j hj)⟩ (by generalize (Value.slice a k c).ownBlock = z; cases z <;> simp)
      have hbl := hid (fun j e => (World.ownsRow.lt hrow.out j e).1)
      clear ho hrow c1 c2
      generalize (L.getD k (0, 0)).1 = x at *
      generalize (L.getD k (0, 0)).2 = y at *
      generalize L.take k = K at *
      go_wp2_with (at_builtin; refine wpList_append_own_at _ rfl _ _ 60 rfl w1.heap.size 84 i0 .nilFunc 1 8 Try.underlying60 hi hz0 hz1 hz2 rfl (by decide) (.slice a k c) k (K.map fnB) rfl (hro.out _ _) ⟨wr.heap.size + 1, 0, none⟩ 1 1 [fnB (x, y)] rfl rfl ?c1 ?c2 ?c3 ?c4 ?c5 ?_)
      case c1 =>
        intro j u hj
        have h1 := cell_one_new (wr.alloc (.cells #[.int .i64 x, .int .i64 y] 40)) (fnB (x, y)) 84 j u hj
        rw [World.size_alloc] at h1
        exact h1
      case c2 => intro u hu; obtain rfl := List.mem_singleton.mp hu; rfl
      case c3 => rw [show maxLen = 9223372036854775807 by decide]; omega
      case c4 => omega
      case c5 => have := hb.out.size; simp; omega
      intro v6 w6 ho6 hg6 _ _
      obtain ⟨g6, c6, rfl⟩ := ownsRow_succ ho6
      have HO6 : Hid (OwC w1.heap.size w6 (.slice (some ⟨g6, 0, none⟩) (k + 1) c6) (L.take (k + 1))) := by
        rw [HTk.out]
        show World.ownsRow _ _ _ _ _ (K ++ [(x, y)]).length ((K ++ [(x, y)]).map fnB)
        rw [List.length_append, List.map_append, hlk.out]
        exact ho6
      have HB6 := hid ((bmore (bmore hb.out (.cells #[.int .i64 x, .int .i64 y] 40)) (.cells #[fnB (x, y)] 84)).grown hg6 (by have := hb.out.size; simp; omega) hbl.out)
      clear ho6 hg6 HTk hro hbl hb hlk d1 d2
      go_wp2
      go_roundw
      case rel => exact ⟨k + 1, c6, _, rfl, by go_num, by omega, HO6.out, HB6.out⟩
      case measure => simp [intOf]; omega
    · obtain rfl : k = m := by omega
      have ho2 := ho.out
      rw [List.take_of_length_le (by rw [HL.out]; exact Nat.le_refl _)] at ho2
      have HO := hid (OwC.slc ho2 (by intro e; have := HL.out; rw [e] at this; simp at this; omega))
      have HR := hid (bthen HB1.out hb.out)
      clear ho ho2 HC hb HB1
      go_wp2
      go_ret
      exact ⟨_, rfl, HO.out, HR.out⟩
theorem fieldI1 (c a : Value) (w : World) : (Instr.field 31 (.agg #[c, a]) 1).run Try.prog w = .ok a w := by kernel_rfl
def nsL (ls : List B2) (l : List Int) : List Int := ls.map (fun b => sumAbs (bdL l b))
set_option maxRecDepth 100000 in
set_option maxHeartbeats 1000000 in
/-- The norms of what a list of bands takes out of a block. -/
theorem normsOf_calls (ls : List B2) (b off c : Nat) (l : List Int) (vc : Value) (w : World) (h : Sl .i64 w (.slice (some ⟨b, off, none⟩) l.length c) l) (hc : SlC w vc ls) (hfit : l.length ≤ c) (hn : l.length ≤ 16) (ha : l.all coB = true) (hls : ls.length ≤ 2)
    (hb : ∀ i, i < ls.length → ∃ f d : Nat, ls.getD i (0, 0) = ((f : Int), (d : Int)) ∧ f + d ≤ l.length ∧ 1 ≤ d) :
    Calls Try.prog 36 #[.slice (some ⟨b, off, none⟩) l.length c, vc] w fun e w' => ∃ u, e = .returned u ∧ OwI w.heap.size w' u (nsL ls l) ∧ Below w.heap.size w w' := by
  have hf1 := fieldI1
  have Hs := hid h
  have HBd : Hid (∀ q : Int × Int, (bdL l q).length ≤ 64) := fun q => by
    show (List.take _ _).length ≤ 64
    rw [List.length_take, List.length_drop]; omega
  have HOf := hid (fun f d W (hW : Sl .i64 W (.slice (some ⟨b, off, none⟩) l.length c) l) (h1 : f + d ≤ l.length) (h2 : 1 ≤ d) => of_calls f d b off l.length c l W hW hfit (by omega) h1 h2)
  have HNo := hid (fun u (q : Int × Int) W (hW : Sl .i64 W u (bdL l q)) => implNormOf_calls u (bdL l q) W hW)
  have HNm := hid (fun q : Int × Int => nm_yes (xs := bdL l q) (by have := HBd.out q; omega) (co_top (all_bd ha q)))
  have Hb := hid hb
  have HC := hid hc
  obtain ⟨bc, cc, rfl, hbc, hcell⟩ := hc
  have HCc := hid hcell
  have hbc' := hid hbc
  have HTk : Hid (∀ k, k < ls.length → (nsL ls l).take (k + 1) = (nsL ls l).take k ++ [sumAbs (bdL l (ls.getD k (0, 0)))]) := fun k hk => by
    unfold nsL
    rw [List.take_add_one, List.getElem?_map, List.getElem?_eq_getElem hk, List.getD_eq_getElem?_getD, List.getElem?_eq_getElem hk]; rfl
  have HAll : Hid ((nsL ls l).take ls.length = nsL ls l) := List.take_of_length_le (by unfold nsL; rw [List.length_map]; exact Nat.le_refl _)
  have HLen : Hid (∀ k, k ≤ ls.length → ((nsL ls l).take k).length = k) := fun k hk => by unfold nsL; rw [List.length_take, List.length_map]; omega
  clear h hb hbc hcell ha HC
  generalize nsL ls l = N at *
  generalize hm : ls.length = m at *
  go_enter Try.func36, Try.ntmps36
  go_wp2_with fail
  go_loopw [5, 10] (fun o i wr => ∃ (k n5 c5 : Nat) (a : Option Addr), o = .slice a n5 c5 ∧ i = .int .i64 (k : Int) ∧ k ≤ m ∧ Hid (OwI w.heap.size wr (.slice a n5 c5) (N.take k)) ∧ Hid (Below w.heap.size w wr)) (fun _ i _ => m - (intOf i).toNat)
  case atStart => exact ⟨0, 0, 0, none, rfl, rfl, Nat.zero_le _, ow_nil _ _, Below.refl _ _⟩
  case round =>
    obtain ⟨k, n5, c5, a, rfl, rfl, hk, hO, hB⟩ := hrel
    by_cases hlt : k < m
    · obtain ⟨f, d, hfd, hfd1, hfd2⟩ := Hb.out k hlt
      have hcl : wr.cell? ⟨bc, k, none⟩ = some (.func (.func 39) #[.agg #[.int .i64 (f : Int), .int .i64 (d : Int)]] #[]) := by
        rw [(hB.out.cell (p := ⟨bc, k, none⟩) hbc'.out), HCc.out k hlt, hfd]; rfl
      have hT := HTk.out k hlt
      rw [hfd] at hT
      have HR := hid hT
      have HOj := hid (fun W hW => HOf.out f d W hW hfd1 hfd2)
      have HNj := hid (fun u W hW => HNo.out u ((f : Int), (d : Int)) W hW)
      have hnm := HNm.out ((f : Int), (d : Int))
      rw [← hnm.1, ← hnm.2] at HNj
      have hys := HLen.out k hk
      clear hT hnm hfd HTk HNm HNo HOf HAll HLen HBd HCc
      generalize bdL l ((f : Int), (d : Int)) = z at *
      generalize sumAbs z = sz at *
      go_wp2_with fail
      refine (HOj.out _ (Hs.out.later hB.out)).mono ?_
      rintro e w2 ⟨c2, rfl, hz2, hb2⟩
      have HZ2 := hid hz2
      have HO2 := hid (hO.out.later hb2)
      have HB2 := hid (bthen hB.out hb2)
      clear hz2 hb2 hO hB HOj hcl
      go_wp2_with fail
      refine (HNj.out _ _ HZ2.out).mono ?_
      rintro e w3 ⟨rfl, hb3⟩
      have HO3 := hid ((HO2.out.later hb3).alloc (.cells #[.int .i64 sz] 2))
      have HB3 := hid (bmore (bthen HB2.out hb3) (.cells #[.int .i64 sz] 2))
      clear HO2 HB2 HZ2 HNj hb3
      generalize N.take k = ys at *
      go_wp2_with (at_builtin; refine wpList_append_ints _ rfl _ _ rfl w.heap.size _ ys rfl HO3.out _ [sz] rfl (sl_lit _ _ _ _ _ _ rfl rfl) (by simp) ?c1 ?c2 ?_)
      case c1 => simp only [List.length_singleton]; omega
      case c2 => have := HB3.out.size; omega
      intro g6 cap6 n6 w6 hn6 ho6 hg6 _
      have HB6 := hid (HB3.out.trans (below_of_grown hg6 (by have := HB3.out.size; omega) (fun j e => (HO3.out.block j e).1)))
      have HO6 := hid ho6
      clear hn6 ho6 hg6 HO3 HB3
      go_wp2
      go_roundw
      case rel => exact ⟨k + 1, n6, cap6, _, rfl, by go_num, by omega, by rw [HR.out]; exact HO6.out, HB6⟩
      case measure => simp [intOf]; omega
    · obtain rfl : k = m := by omega
      rw [HAll.out] at hO
      clear HTk HNm HNo HOf HLen HBd HCc
      go_wp2
      go_ret
      exact ⟨_, rfl, hO.out, hB.out⟩
theorem implBandNorms_calls (s : Int) (v : Value) (l : List Int) (w : World) (h : Sl .i64 w v l) (hfit : Fits v) (hm : l.length ≤ 1048576) :
    Calls Try.prog 10 #[.int .i64 s, v] w fun e w' => ∃ u, e = .returned (.agg #[.int .i64 (bnC s l), u]) ∧ OwI w.heap.size w' u (bnV s l) ∧ Below w.heap.size w w' := by
  have HB0 := hid (bmore (Below.refl _ w) (.cells #[.int .i64 0, .slice none 0 0] 28))
  have HC := hid (coefsFault_calls s v l _ (h.later HB0.out) hm)
  by_cases hz : cfC s l = 0
  · obtain ⟨h1, h2, h3⟩ := cf_yes hz
    have hne : l ≠ [] := by intro e; rw [e] at h2; simp at h2; omega
    have H : Hid (0 = bnC s l ∧ bnNs s l = bnV s l) := ⟨hz.symm, bn_good hz⟩
    have HCu := hid (fun W => cuts_calls s W h1)
    have Hsl := hid h
    obtain ⟨a, cap, rfl, hc⟩ := h
    obtain ⟨b, off, rfl, _, _⟩ := hc hne
    have hbb : ∀ i, i < (bnL s).length → ∃ f d : Nat, (bnL s).getD i (0, 0) = ((f : Int), (d : Int)) ∧ f + d ≤ l.length ∧ 1 ≤ d := by
      intro i hi
      rw [bn_len h1] at hi
      have hq := bP_bd h1 (show i + 1 ≤ bC s by omega)
      have hq0 := bP_bd h1 (show i ≤ bC s by omega)
      have hst := bP_step s i
      have hdd := bd_or s
      refine ⟨(bP s i).toNat, bD s, ?_, by omega, by omega⟩
      rw [show ((bP s i).toNat : Int) = bP s i by omega]
      exact bn_get h1 hi
    have hl2 : (bnL s).length ≤ 2 := by rw [bn_len h1]; have := bc_or s; omega
    have hl16 : l.length ≤ 16 := by omega
    have HN := hid (fun vc W (q1 : Sl .i64 W (.slice (some ⟨b, off, none⟩) l.length cap) l) (q2 : SlC W vc (bnL s)) => normsOf_calls (bnL s) b off cap l vc W q1 q2 hfit hl16 h3 hl2 hbb)
    rw [show nsL (bnL s) l = bnNs s l from rfl] at HN
    rw [hz] at HC
    clear hz h1 h2 h3 hc hne hbb hl2 hl16
    go_enter Try.func10, Try.ntmps10
    go_wp2_with fail
    refine HC.out.mono ?_
    rintro e w1 ⟨rfl, rfl⟩
    go_wp2_with fail
    refine (HCu.out _).mono ?_
    rintro e w1 ⟨vc, rfl, hsc, hb1⟩
    have HSl := hid (Hsl.out.later (bthen HB0.out hb1))
    have HSc := hid hsc
    have HK1 := hid ((Blk.new w #[.int .i64 0, .slice none 0 0] 28).later hb1)
    have HB1 := hid (bthen HB0.out hb1)
    have hs1 : w.heap.size + 1 ≤ w1.heap.size := by have := hb1.size; simpa using this
    clear hsc hb1
    go_wp2_with fail
    refine (HN.out _ _ HSl.out HSc.out).mono ?_
    rintro e w2 ⟨u, rfl, ho, hb2⟩
    have hK := HK1.out.later hb2
    obtain ⟨c0, c1, f0, f1⟩ := hK.two
    have HL := hid (bthen HB1.out hb2)
    have HO := hid (ho.mono (base' := w.heap.size + 1) hs1)
    obtain ⟨au, cu, hu, _⟩ := ho.sl
    subst hu
    clear hK hb2 ho HN HC HB0 HB1 HK1 HSl HSc
    generalize (bnNs s l).length = nn at *
    go_wp2
    exact bodyPost_ret (v := .agg #[.int .i64 0, .slice au nn cu]) (by simp [results, Try.results10, go_sem, c0, c1]) rfl ⟨_, by rw [← H.out.1], by rw [← H.out.2]; exact Ow.set2 HO.out _ _, below_set2 HL.out _ _⟩
  · have H : Hid (cfC s l = bnC s l ∧ [] = bnV s l) := ⟨rfl, bn_bad hz⟩
    have b1 : (cfC s l != 0) = true := by simpa using hz
    obtain ⟨a, cap, rfl, _⟩ := h
    clear hz
    generalize cfC s l = c at *
    go_enter Try.func10, Try.ntmps10
    go_wp2_with fail
    refine HC.out.mono ?_
    rintro e w1 ⟨rfl, rfl⟩
    clear HC
    go_wp2
    exact bodyPost_ret (v := .agg #[.int .i64 c, .slice none 0 0]) (by simp [results, Try.results10, go_sem]) rfl ⟨_, by rw [← H.out.1], by rw [← H.out.2]; exact ow_nil _ _, bmore (Below.refl _ _) _⟩
set_option maxHeartbeats 1000000 in
theorem maskOf_calls (lo hi : Int) (w : World) (_lb : 0 ≤ lo ∧ lo ≤ 268435456) (_hb : 0 ≤ hi ∧ hi ≤ 268435456) :
    Calls Try.prog 41 #[.int .i64 lo, .int .i64 hi] w fun e w' => e = .returned (.int .i64 (mskV lo hi)) ∧ w' = w := by
  have HM0 := hid (@msk_0 lo hi)
  have HM1 := hid (@msk_1 lo hi)
  have HM2 := hid (@msk_2 lo hi)
  have HM3 := hid (@msk_3 lo hi)
  generalize mskV lo hi = mv at *
  go_enter Try.func41, Try.ntmps41
  go_wp2_with fail
  go_loop [1, 6] (fun h i => ∃ x : Int, h = .int .i64 x ∧ ((i = .int .i64 0 ∧ x = hi) ∨ (i = .int .i64 1 ∧ x = 4 * hi ∧ 4 * hi < lo) ∨ (i = .int .i64 2 ∧ x = 16 * hi ∧ 4 * hi < lo ∧ 16 * hi < lo) ∨ (i = .int .i64 3 ∧ x = 64 * hi ∧ 4 * hi < lo ∧ 16 * hi < lo ∧ 64 * hi < lo))) (fun _ i => 3 - (intOf i).toNat)
  case atStart => exact ⟨hi, rfl, Or.inl ⟨rfl, rfl⟩⟩
  case round =>
    obtain ⟨x, rfl, hr⟩ := hrel
    rcases hr with ⟨rfl, hx⟩ | ⟨rfl, hx, q0⟩ | ⟨rfl, hx, q0, q1⟩ | ⟨rfl, hx, q0, q1, q2⟩
    · by_cases q : x * 4 < lo
      · clear HM0 HM1 HM2 HM3
        go_wp2
        go_round
        case rel => exact ⟨_, rfl, Or.inr (Or.inl ⟨rfl, by omega, by omega⟩)⟩
        case measure => simp [intOf]
      · have H := hid (HM0.out (by omega))
        clear HM0 HM1 HM2 HM3
        go_wp2
        go_ret
        exact ⟨by rw [H.out]; rfl, rfl⟩
    · by_cases q : x * 4 < lo
      · clear HM0 HM1 HM2 HM3
        go_wp2
        go_round
        case rel => exact ⟨_, rfl, Or.inr (Or.inr (Or.inl ⟨rfl, by omega, by omega, by omega⟩))⟩
        case measure => simp [intOf]
      · have H := hid (HM1.out q0 (by omega))
        clear HM0 HM1 HM2 HM3
        go_wp2
        go_ret
        exact ⟨by rw [H.out]; rfl, rfl⟩
    · by_cases q : x * 4 < lo
      · clear HM0 HM1 HM2 HM3
        go_wp2
        go_round
        case rel => exact ⟨_, rfl, Or.inr (Or.inr (Or.inr ⟨rfl, by omega, by omega, by omega, by omega⟩))⟩
        case measure => simp [intOf]
      · have H := hid (HM2.out q0 q1 (by omega))
        clear HM0 HM1 HM2 HM3
        go_wp2
        go_ret
        exact ⟨by rw [H.out]; rfl, rfl⟩
    · have H := hid (HM3.out q0 q1 q2)
      clear HM0 HM1 HM2 HM3
      go_wp2
      go_ret
      exact ⟨by rw [H.out]; rfl, rfl⟩
set_option maxRecDepth 100000 in
set_option maxHeartbeats 2000000 in
theorem implMaskOf_calls (s : Int) (v : Value) (l : List Int) (w : World) (h : Sl .i64 w v l) (hfit : Fits v) (hm : l.length ≤ 1048576) :
    Calls Try.prog 11 #[.int .i64 s, v] w fun e w' => e = .returned (.agg #[.int .i64 (mkC s l), .int .i64 (mkV s l)]) ∧ Below w.heap.size w w' := by
  have HB0 := hid (bmore (Below.refl _ w) (.cells #[.int .i64 0, .int .i64 0] 31))
  have HC := hid (coefsFault_calls s v l _ (h.later HB0.out) hm)
  by_cases hz : cfC s l = 0
  · have hmf : ∀ (fn : Fn) (first cap : Array Value) (w : World), (Instr.makeFunc fn first cap).run Try.prog w = .ok (.func fn first cap) w := fun _ _ _ _ => rfl
    obtain ⟨h1, h2, h3⟩ := cf_yes hz
    have hne : l ≠ [] := by intro e; rw [e] at h2; simp at h2; omega
    have H : Hid (0 = mkC s l ∧ mskV (loN l) (hiN l) = mkV s l) := ⟨hz.symm, mk_good hz⟩
    have HLo := hid (fun W => lows_calls s W h1)
    have HHi := hid (fun W => highs_calls s W h1)
    have Hsl := hid h
    obtain ⟨a, cap, rfl, hc⟩ := h
    obtain ⟨b, off, rfl, _, _⟩ := hc hne
    obtain ⟨f, hf, hf1, hf2⟩ : ∃ f : Nat, s / 2 = (f : Int) ∧ l.length = 2 * f ∧ 1 ≤ f := ⟨l.length / 2, by omega, by omega, by omega⟩
    have hfl : l.length / 2 = f := by omega
    have hl16 : l.length ≤ 16 := by omega
    have lb := sum_small (all_sub h3 (fun _ hx => List.mem_of_mem_take hx) : (l.take f).all coB = true) (by rw [List.length_take]; omega)
    have hb := sum_small (all_drop h3 f) (by rw [List.length_drop]; omega)
    have e1 : loN l = sumAbs (l.take f) := by unfold loN; rw [hfl]
    have e2 : hiN l = sumAbs (l.drop f) := by unfold hiN; rw [hfl]
    have hns : nsL [(0, (f : Int)), ((f : Int), (f : Int))] l = [sumAbs (l.take f), sumAbs (l.drop f)] := by
      have t1 : bdL l (0, (f : Int)) = l.take f := by unfold bdL; simp
      have t2 : bdL l ((f : Int), (f : Int)) = l.drop f := by
        unfold bdL
        simp only [Int.toNat_natCast]
        exact List.take_of_length_le (by rw [List.length_drop]; omega)
      unfold nsL
      simp only [List.map_cons, List.map_nil, t1, t2]
    have HN := hid (fun vc W (q1 : Sl .i64 W (.slice (some ⟨b, off, none⟩) l.length cap) l) (q2 : SlC W vc [(0, (f : Int)), ((f : Int), (f : Int))]) => normsOf_calls [(0, (f : Int)), ((f : Int), (f : Int))] b off cap l vc W q1 q2 hfit hl16 h3 (Nat.le_refl 2) (by
      intro i hi
      have : i = 0 ∨ i = 1 := by simp at hi; omega
      rcases this with rfl | rfl
      · exact ⟨0, f, rfl, by omega, hf2⟩
      · exact ⟨f, f, rfl, by omega, hf2⟩))
    rw [hns] at HN
    rw [e1, e2] at H
    rw [hf] at HLo HHi
    rw [hz] at HC
    clear hz h1 h2 h3 hc hne e1 e2 hns hf hf1 hf2 hfl hl16
    generalize sumAbs (l.take f) = lo at *
    generalize sumAbs (l.drop f) = hi at *
    have HMk := hid (fun W => maskOf_calls lo hi W lb hb)
    generalize mskV lo hi = mv at *
    clear lb hb
    go_enter Try.func11, Try.ntmps11
    go_wp2_with fail
    refine HC.out.mono ?_
    rintro e w1 ⟨rfl, rfl⟩
    go_wp2_with fail
    refine (HLo.out _).mono ?_
    rintro e w1 ⟨rfl, hb1⟩
    have HB1 := hid (bthen HB0.out hb1)
    have HK1 := hid ((Blk.new w #[.int .i64 0, .int .i64 0] 31).later hb1)
    clear hb1
    go_wp2_with fail
    refine (HHi.out _).mono ?_
    rintro e w2 ⟨rfl, hb2⟩
    have HB2 := hid (bmore (bthen HB1.out hb2) (.cells #[fnB (0, (f : Int)), fnB ((f : Int), (f : Int))] 84))
    have HK2 := hid ((HK1.out.later hb2).alloc (.cells #[fnB (0, (f : Int)), fnB ((f : Int), (f : Int))] 84))
    have HSl := hid (Hsl.out.later HB2.out)
    have hs2 : w.heap.size + 1 ≤ (w2.alloc (.cells #[fnB (0, (f : Int)), fnB ((f : Int), (f : Int))] 84)).heap.size := by have := HK2.out.lt; omega
    have HSc : Hid (SlC (w2.alloc (.cells #[fnB (0, (f : Int)), fnB ((f : Int), (f : Int))] 84)) (.slice (some ⟨w2.heap.size, 0, none⟩) 2 2) [(0, (f : Int)), ((f : Int), (f : Int))]) := by
      refine ⟨w2.heap.size, 2, rfl, by simp, fun i hi => ?_⟩
      have hbk := (Blk.new w2 #[fnB (0, (f : Int)), fnB ((f : Int), (f : Int))] 84).cell i
      have : i = 0 ∨ i = 1 := by simp at hi; omega
      rcases this with rfl | rfl
      · exact hbk
      · exact hbk
    clear hb2 HB1 HK1 HLo HHi HC HB0
    go_wp2_with fail
    refine (HN.out _ _ HSl.out HSc.out).mono ?_
    rintro e w3 ⟨u, rfl, ho, hb3⟩
    have HK3 := hid (HK2.out.later hb3)
    have HL3 := hid (bthen HB2.out hb3.drew)
    have HO3 := hid ((ho.mono (base' := w.heap.size + 1) hs2).later (Below.refl _ _).drew)
    obtain ⟨gu, cu, hu⟩ := ownsRow_succ (k := 1) ho
    subst hu
    clear ho hb3 HN HB2 HK2 HSl HSc hs2
    obtain ⟨c0, c1, f0, f1⟩ := HK3.out.two
    have hS0 := And.intro (Ow.cellAt HO3.out rfl 0 (by simp)).1 (Ow.cellAt HO3.out rfl 1 (by simp)).1
    simp only [List.getD_cons_zero, List.getD_cons_succ] at hS0
    have hO4 := Ow.set2 HO3.out (.int .i64 0) (.int .i64 mv)
    have hS1 := And.intro (Ow.cellAt hO4 rfl 0 (by simp)).1 (Ow.cellAt hO4 rfl 1 (by simp)).1
    simp only [List.getD_cons_zero, List.getD_cons_succ] at hS1
    have HR := hid (below_set2 HL3.out (.int .i64 0) (.int .i64 mv))
    clear hO4 HO3 HL3 HK3
    go_wp2_with fail
    refine wp_region_noPanic ?_
    refine wp_region_held_drew (S := fun W => W.cell? ⟨gu, 0, none⟩ = some (.int .i64 lo) ∧ W.cell? ⟨gu, 1, none⟩ = some (.int .i64 hi)) (by kernel_rfl) (by first | exact hS1 | exact hS0) (fun hHeld => ?_)
    (refine wpAnyH_take (i := 0) (v := ?_) rfl (by kernel_rfl) (by kernel_rfl) (by kernel_rfl) (fun _ _ _ h => h) (Or.inl ⟨by rfl, ?_⟩) hHeld ?_; rotate_left; (intro w hSw; (obtain ⟨s0, s1⟩ := hSw); (go_simp <;> with_reducible rfl)); simp only [List.getElem_toArray, List.getElem_cons_zero, Act.put, List.setIfInBounds_toArray, List.set_cons_zero, List.set_cons_succ])
    (refine wpAnyH_take (i := 1) (v := ?_) rfl (by kernel_rfl) (by kernel_rfl) (by kernel_rfl) (fun _ _ _ h => h) (Or.inl ⟨by rfl, ?_⟩) hHeld ?_; rotate_left; (intro w hSw; (obtain ⟨s0, s1⟩ := hSw); (go_simp <;> with_reducible rfl)); simp only [List.getElem_toArray, List.getElem_cons_zero, List.getElem_cons_succ, Act.put, List.setIfInBounds_toArray, List.set_cons_zero, List.set_cons_succ])
    (refine wpAnyH_take (i := 2) (v := ?_) rfl (by kernel_rfl) (by kernel_rfl) (by kernel_rfl) (fun _ _ _ h => h) (Or.inl ⟨by rfl, ?_⟩) hHeld ?_; rotate_left; (intro w hSw; (obtain ⟨s0, s1⟩ := hSw); (go_simp <;> with_reducible rfl)); simp only [List.getElem_toArray, List.getElem_cons_zero, List.getElem_cons_succ, Act.put, List.setIfInBounds_toArray, List.set_cons_zero, List.set_cons_succ])
    (refine wpAnyH_take (i := 3) (v := ?_) rfl (by kernel_rfl) (by kernel_rfl) (by kernel_rfl) (fun _ _ _ h => h) (Or.inl ⟨by rfl, ?_⟩) hHeld ?_; rotate_left; (intro w hSw; (obtain ⟨s0, s1⟩ := hSw); (go_simp <;> with_reducible rfl)); simp only [List.getElem_toArray, List.getElem_cons_zero, List.getElem_cons_succ, Act.put, List.setIfInBounds_toArray, List.set_cons_zero, List.set_cons_succ])
    (refine wpAnyH_take (i := 4) (v := ?_) rfl (by kernel_rfl) (by kernel_rfl) (by kernel_rfl) (fun _ _ _ h => h) (Or.inl ⟨by rfl, ?_⟩) hHeld ?_; rotate_left; (intro w hSw; (obtain ⟨s0, s1⟩ := hSw); (go_simp <;> with_reducible rfl)); simp only [List.getElem_toArray, List.getElem_cons_zero, List.getElem_cons_succ, Act.put, List.setIfInBounds_toArray, List.set_cons_zero, List.set_cons_succ])
    (refine wpAnyH_take (i := 5) (v := ?_) rfl (by kernel_rfl) (by kernel_rfl) (by kernel_rfl) (fun _ _ _ h => h) (Or.inl ⟨by rfl, ?_⟩) hHeld ?_; rotate_left; (intro w hSw; (obtain ⟨s0, s1⟩ := hSw); (go_simp <;> with_reducible rfl)); simp only [List.getElem_toArray, List.getElem_cons_zero, List.getElem_cons_succ, Act.put, List.setIfInBounds_toArray, List.set_cons_zero, List.set_cons_succ])
    refine wpAnyH_ready (rs := [6]) (by kernel_rfl) (by simp) ?_
    refine (AllReadyH.cons rfl (fun K hK => ?_) AllReadyH.nil)
    go_simp
    (refine (HMk.out _).mono ?_; rintro e w5 ⟨rfl, rfl⟩)
    refine hK.out _ _ (by first | exact hS1 | exact hS0) (fun hHeld => ?_)
    clear hK K
    try dsimp only
    (refine wpAnyH_take (i := 7) (v := ?_) rfl (by kernel_rfl) (by kernel_rfl) (by kernel_rfl) (fun _ _ _ h => h) (Or.inl ⟨by rfl, ?_⟩) hHeld ?_; rotate_left; (intro w hSw; (obtain ⟨s0, s1⟩ := hSw); (go_simp <;> with_reducible rfl)); simp only [List.getElem_toArray, List.getElem_cons_zero, List.getElem_cons_succ, Act.put, List.setIfInBounds_toArray, List.set_cons_zero, List.set_cons_succ])
    refine wpAnyH_ready (rs := [8]) (by kernel_rfl) (by simp) ?_
    refine (AllReadyH.cons rfl (fun K hK => ?_) AllReadyH.nil)
    go_simp
    skip
    refine hK.out _ _ (by first | exact hS1 | exact hS0) (fun hHeld => ?_)
    clear hK K
    try simp only [List.getElem_toArray, List.getElem_cons_zero, List.getElem_cons_succ, Act.put, List.setIfInBounds_toArray, List.set_cons_zero, List.set_cons_succ]
    refine wpAnyH_done (by kernel_rfl) ?_ _
    refine NoPanic.normal ?_
    go_wp2
    exact bodyPost_ret (v := .agg #[.int .i64 0, .int .i64 mv]) (by simp [results, Try.results11, go_sem, c0, c1]) rfl ⟨by rw [← H.out.1, ← H.out.2], HR.out⟩
  · have H : Hid (cfC s l = mkC s l ∧ 0 = mkV s l) := ⟨rfl, mk_bad hz⟩
    have b1 : (cfC s l != 0) = true := by simpa using hz
    obtain ⟨a, cap, rfl, _⟩ := h
    clear hz
    generalize cfC s l = c at *
    go_enter Try.func11, Try.ntmps11
    go_wp2_with fail
    refine HC.out.mono ?_
    rintro e w1 ⟨rfl, rfl⟩
    clear HC
    go_wp2
    exact bodyPost_ret (v := .agg #[.int .i64 c, .int .i64 0]) (by simp [results, Try.results11, go_sem]) rfl ⟨by rw [← H.out.1, ← H.out.2], bmore (Below.refl _ _) _⟩
end Go.Proofs.Ytodfkicmmcfkaaa.BanK
