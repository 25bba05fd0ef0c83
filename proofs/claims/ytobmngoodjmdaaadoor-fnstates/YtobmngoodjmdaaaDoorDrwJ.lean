/- Synths and coefficients that are drawn, right ones and bent ones. -/
import Derived.Test.YtobmngoodjmdaaaDoorDrwI
namespace Go.Proofs.YtobmngoodjmdaaaDoor.DrwJ
open Go.ChangeShapes Go.WideShapes Go.ChangeAt Go.RowKit Go.Proofs.YtobmngoodjmdaaaDoor.Num Go.Proofs.YtobmngoodjmdaaaDoor.Sli Go.Proofs.YtobmngoodjmdaaaDoor.App Go.Proofs.YtobmngoodjmdaaaDoor.Samp Go.Proofs.YtobmngoodjmdaaaDoor.Blk Go.Proofs.YtobmngoodjmdaaaDoor.LapM Go.Proofs.YtobmngoodjmdaaaDoor.LapN Go.Proofs.YtobmngoodjmdaaaDoor.IntL Go.Proofs.YtobmngoodjmdaaaDoor.LapS Go.Proofs.YtobmngoodjmdaaaDoor.Src Go.Proofs.YtobmngoodjmdaaaDoor.Lists Go.Proofs.YtobmngoodjmdaaaDoor.Samples Go.Proofs.YtobmngoodjmdaaaDoor.Draws Go.Proofs.YtobmngoodjmdaaaDoor.DrwF

/-- A list in a block from B on and below U. -/
def Sy (B U : Nat) (w : World) (v : Value) (xs : List Int) : Prop :=
  ∃ a cap, v = .slice a xs.length cap ∧ (xs ≠ [] → ∃ b off, a = some ⟨b, off, none⟩ ∧ B ≤ b ∧ b < U ∧ b < w.heap.size ∧ ∀ i, i < xs.length → w.cell? ⟨b, off + i, none⟩ = some (.int .i64 (xs.getD i 0)))
theorem Sy.of {B : Nat} {w : World} {v : Value} {xs : List Int} (h : Sx B w v xs) : Sy B w.heap.size w v xs := by
  obtain ⟨a, cap, rfl, hc⟩ := h
  exact ⟨a, cap, rfl, fun hne => by obtain ⟨b, off, rfl, h1, h2, h3⟩ := hc hne; exact ⟨b, off, rfl, h1, h2, h2, h3⟩⟩
theorem Sy.sl {B U : Nat} {w : World} {v : Value} {xs : List Int} (h : Sy B U w v xs) : Sl .i64 w v xs := by
  obtain ⟨a, cap, rfl, hc⟩ := h
  exact ⟨a, cap, rfl, fun hne => by obtain ⟨b, off, rfl, _, _, h2, h3⟩ := hc hne; exact ⟨b, off, rfl, h2, h3⟩⟩
theorem Sy.kept {B U : Nat} {w w' : World} {v : Value} {xs : List Int} {r : Option Nat} (h : Sy B U w v xs) (hg : w.grownBy w' r) (hr : ∀ j, r = some j → j < B ∨ U ≤ j) : Sy B U w' v xs := by
  obtain ⟨a, cap, rfl, hc⟩ := h
  refine ⟨a, cap, rfl, fun hne => ?_⟩
  obtain ⟨b, off, rfl, h1, hu, h2, h3⟩ := hc hne
  have hb : w'.heap[b]? = w.heap[b]? := hg.block b h2 (fun e => by have := hr b e.symm; omega)
  exact ⟨b, off, rfl, h1, hu, Nat.lt_of_lt_of_le h2 hg.size, fun i hi => by rw [← h3 i hi]; simp only [World.cell?, hb]⟩
/-- What the draw keeps: the synth's block, its lists, the source. -/
structure PB (w1 : World) (g : Nat) (a : Option Addr) (cap : Nat) (bs : List Int) (L B : Nat) (s : Int) (u t : Value) (head tail : List Int) (at' : Nat) (W : World) : Prop where
  l : Blk W L #[.int .i64 s, u, t] 34
  su : Sy B L W u head
  st : Sy B L W t tail
  src : Src w1 W g a cap bs at'
  ng : L ≠ g ∧ g < B
section
variable {w1 W W' : World} {g : Nat} {a : Option Addr} {cap : Nat} {bs : List Int} {L B : Nat} {s : Int} {u t : Value} {head tail : List Int} {at' at2 : Nat}
theorem PB.next (h : PB w1 g a cap bs L B s u t head tail at' W) (hs : Src w1 W' g a cap bs at2) (hg : W.grownBy W' (some g)) : PB w1 g a cap bs L B s u t head tail at2 W' :=
  have h1 := h.ng
  ⟨h.l.kept hg (by simp; omega), h.su.kept hg (fun j e => by cases e; exact .inl h1.2), h.st.kept hg (fun j e => by cases e; exact .inl h1.2), hs, h1⟩
theorem PB.later (h : PB w1 g a cap bs L B s u t head tail at' W) (hb : Below W.heap.size W W') : PB w1 g a cap bs L B s u t head tail at' W' :=
  h.next (src_grown (row := none) h.src (grown_below hb) (fun _ e => by cases e)) (grown_below hb)
end
set_option maxRecDepth 100000 in
set_option maxHeartbeats 4000000 in
theorem drawPlay_calls (a : Option Addr) (cap : Nat) (bs : List Int) (w : World) (hsl : Sl .u8 w (.slice a bs.length cap) bs) (hbd : ∀ x ∈ bs, 0 ≤ x ∧ x ≤ 255) (hlen : bs.length ≤ 1048576) :
    Calls Tryd.prog 17 #[.slice a bs.length cap] w fun e w' => ∃ s u t head tail f co, e = .returned (.tuple #[.agg #[.int .i64 s, u, t], f]) ∧ Sl .i64 w' u head ∧ Sl .i64 w' t tail ∧ Sl .i64 w' f co ∧ Fits u ∧ Fits t ∧ Fits f ∧ (head.length ≤ 16 ∧ tail.length ≤ 16 ∧ co.length ≤ 21) ∧ Below w.heap.size w w' := by
  have hb0 := bmore (Below.refl _ w) (.cells #[.int .i64 0, .slice none 0 0, .slice none 0 0] 34)
  have HS := hid (l1Source_calls a cap bs (w.alloc (.cells #[.int .i64 0, .slice none 0 0, .slice none 0 0] 34)) (w.alloc (.cells #[.int .i64 0, .slice none 0 0, .slice none 0 0] 34)) (Below.refl _ _) (hsl.later hb0) hbd hlen)
  have HR := hid (Blk.new w #[.int .i64 0, .slice none 0 0, .slice none 0 0] 34)
  have HB := hid hb0
  have hsz0 : (w.alloc (.cells #[.int .i64 0, .slice none 0 0, .slice none 0 0] 34)).heap.size = w.heap.size + 1 := World.size_alloc _ _
  clear hsl hbd hlen hb0
  go_enter Tryd.func17, Tryd.ntmps17
  go_wp2_with fail
  generalize w.alloc (.cells #[.int .i64 0, .slice none 0 0, .slice none 0 0] 34) = w1 at *
  refine HS.out.mono ?_
  rintro e w2 ⟨g, rfl, hs2, hz2⟩
  have Hs2 := hid hs2
  clear hs2 HS
  have hg2 := src_lt Hs2.out
  have hgw : w1.heap.size ≤ g := Hs2.out.1
  go_wp2_with fail
  refine (DrwI.l7BentSynth_calls w1 _ g a cap bs _ Hs2.out (by omega)).mono ?_
  rintro e w3 ⟨s, u, t, head, tail, at2, rfl, hu, ht, fu, ft, hl, hat2, hs3, hg3⟩
  obtain ⟨au, cu, rfl, -⟩ := id hu
  obtain ⟨av, cv, rfl, -⟩ := id ht
  have ha := bmore (Below.refl w3.heap.size w3) (.cells #[.int .i64 s, .slice au head.length cu, .slice av tail.length cv] 34)
  have hz3 := hg3.size
  have HP4 : Hid (PB w1 g a cap bs w3.heap.size w2.heap.size s (.slice au head.length cu) (.slice av tail.length cv) head tail at2 (w3.alloc (.cells #[.int .i64 s, .slice au head.length cu, .slice av tail.length cv] 34))) :=
    ⟨Blk.new _ _ _, (Sy.of hu).kept (grown_below (r := none) ha) (fun _ e => by cases e), (Sy.of ht).kept (grown_below (r := none) ha) (fun _ e => by cases e), src_grown (row := none) hs3 (grown_below ha) (fun _ e => by cases e), by omega⟩
  have Hf := hid (And.intro fu ft)
  have Hl := hid (And.intro hl.1 hl.2.1)
  have hsb := hl.2.2
  have Hat := hid hat2
  have hLw : w1.heap.size < w3.heap.size := by omega
  clear hu ht fu ft hl hat2 hs3 hg3 ha Hs2
  obtain ⟨l0, l1, l2, _⟩ := HP4.out.l.three
  go_wp2_with fail
  generalize (w3.alloc (.cells #[.int .i64 s, .slice au head.length cu, .slice av tail.length cv] 34)) = w4 at *
  generalize w3.heap.size = L at *
  refine (l1Max_calls s 0 _).mono ?_
  rintro e w' ⟨rfl, rfl⟩
  go_wp2_with fail
  refine (l1Min_calls (max s 0) 20 _).mono ?_
  rintro e w' ⟨rfl, rfl⟩
  obtain ⟨n, hn, hn20⟩ : ∃ n : Nat, min (max s 0) 20 = (n : Int) ∧ n ≤ 20 := ⟨(min (max s 0) 20).toNat, by omega, by omega⟩
  rw [hn]
  clear hn
  go_wp2_with fail
  refine (l1Pick_lit w1 _ g a cap bs _ 3 2 [9, 4000, 200000] _ HP4.out.src (by have := Hat.out; omega) rfl rfl (by omega) (by omega)).mono ?_
  rintro e w5 ⟨q, rfl, hq, hs5, hg5⟩
  have hq0 : 0 ≤ q ∧ q ≤ 1000000 := by simp at hq; omega
  have HP5 := hid ((HP4.out.later (bmore (Below.refl _ w') (.cells #[.int .i64 9, .int .i64 4000, .int .i64 200000] 2))).next hs5 hg5)
  clear hs5 hg5 hq HP4 l0 l1 l2
  go_wp2_with fail
  refine (l1DrawList_calls w1 _ g a cap bs _ n q HP5.out.src (by have := Hat.out; omega) (by omega) (by omega) (by omega)).mono ?_
  rintro e w6 ⟨gl, cl, ys, rfl, ho6, hyn, _, hs6, hg6⟩
  have ho6' : OwI w5.heap.size w6 (.slice (some ⟨gl, 0, none⟩) ys.length cl) ys := ho6
  have HP6 := hid (HP5.out.next hs6 hg6)
  have hBF : w1.heap.size < w5.heap.size ∧ g < w5.heap.size ∧ L < w5.heap.size := by have h1 := src_lt HP5.out.src; have h2 := HP5.out.l.lt; omega
  have Hyn := hid hyn
  have HO6 := hid ho6'
  rw [hyn] at HO6 ⊢
  clear ho6 ho6' hyn hs6 hg6 HP5 hq0
  generalize w5.heap.size = BF at *
  go_wp2_with fail
  refine (l1Next_calls w1 _ g a cap bs _ 12 HP6.out.src (by have := Hat.out; omega) (by omega) (by omega)).mono ?_
  rintro e W ⟨r, rfl, hr0, hr12, hs7, hg7⟩
  have HP7 := hid (HP6.out.next hs7 hg7)
  have HO7 := hid (HO6.out.kept hg7 (fun j e => by cases e; exact hBF.2.1))
  have hgl := HO7.out.block gl rfl
  clear hs7 hg7 HP6 HO6
  by_cases k0 : r = 0
  · subst k0
    clear hr0 hr12
    have HPa := hid (HP7.out.later (bmore (Below.refl _ W) (.cells #[.int .i64 0] 2)))
    have HOa := hid (HO7.out.alloc (.cells #[.int .i64 0] 2))
    clear HP7 HO7
    go_wp2_with (at_builtin; refine IntA.wpList_append_ints _ rfl _ _ rfl BF _ ys rfl HOa.out _ [0] rfl (sl_lit _ _ _ _ _ _ rfl rfl) (by simp) ?c1 ?c2 ?_)
    case c1 => rw [Hyn.out]; simp only [List.length_singleton]; omega
    case c2 => simp; omega
    intro g8 c8 n8 w8 hn8 ho8 hg8 hat8
    have hn8' : n8 = n + 1 := by have := Hyn.out; first | omega | (simp only [List.length_append, List.length_singleton] at hn8; omega)
    rw [hn8'] at ho8 ⊢
    have HPw : Hid (PB w1 g a cap bs L w2.heap.size s (.slice au head.length cu) (.slice av tail.length cv) head tail (at2 + 1 + n + 1) w8) :=
      ⟨HPa.out.l.kept hg8 (by simp [Value.ownBlock]; omega), HPa.out.su.kept hg8 (fun j e => by simp [Value.ownBlock] at e; omega), HPa.out.st.kept hg8 (fun j e => by simp [Value.ownBlock] at e; omega), src_grown HPa.out.src hg8 (fun j e => by simp [Value.ownBlock] at e; omega), HPa.out.ng⟩
    have HFw := hid ho8
    clear ho8 hg8 hat8 hn8 hn8' HPa HOa
    obtain ⟨l0, l1, l2, _⟩ := HPw.out.l.three
    obtain ⟨r0, r1, r2, f0, f1, f2⟩ := (HR.out.later HPw.out.src.2.1).three
    have hgR := grown_set3 w8 w.heap.size (.int .i64 s) (.slice au head.length cu) (.slice av tail.length cv)
    have HU10 := hid (HPw.out.su.kept hgR (fun j e => by cases e; omega)).sl
    have HT10 := hid (HPw.out.st.kept hgR (fun j e => by cases e; omega)).sl
    have HF10 := hid (HFw.out.over (show w.heap.size < BF by omega) hgR)
    have HB10 := hid (below_cell (below_cell (below_cell (bthen HB.out HPw.out.src.2.1) (Nat.le_refl _) 0 (.int .i64 s)) (Nat.le_refl _) 1 (.slice au head.length cu)) (Nat.le_refl _) 2 (.slice av tail.length cv))
    clear HPw HFw hgR
    go_wp2
    exact bodyPost_ret (v := .tuple #[.agg #[.int .i64 s, .slice au head.length cu, .slice av tail.length cv], (.slice (some ⟨g8, 0, none⟩) (n + 1) c8)]) (by simp [results, Tryd.results17, go_sem, r0, r1, r2]) rfl ⟨_, _, _, head, tail, _, ys ++ [0], rfl, HU10.out, HT10.out, HF10.out.sl, Hf.out.1, Hf.out.2, HF10.out.fits, ⟨Hl.out.1, Hl.out.2, (by have := Hyn.out; simp only [List.length_append, List.length_singleton]; omega)⟩, HB10.out⟩
  · have b0 : (r == 0) = false := by simpa using k0
    by_cases k1 : r = 1
    · subst k1
      clear hr0 hr12 k0 b0
      by_cases hp : 0 < n
      · have hpI : (0 : Int) < (n : Int) := by omega
        have HPa := hid (HP7.out.later (bmore (Below.refl _ W) (.cells #[.int .i64 16777216, .int .i64 (-16777216), .int .i64 16777217] 2)))
        go_wp2_with fail
        refine (l1Pick_lit w1 _ g a cap bs _ 3 2 [16777216, -16777216, 16777217] _ HP7.out.src (by have := Hat.out; omega) rfl rfl (by omega) (by omega)).mono ?_
        rintro e w8 ⟨x, rfl, _, hs8, hg8⟩
        have HP8 := hid (HPa.out.next hs8 hg8)
        have HO8 := hid ((HO7.out.alloc (.cells #[.int .i64 16777216, .int .i64 (-16777216), .int .i64 16777217] 2)).kept hg8 (fun j e => by cases e; exact hBF.2.1))
        obtain ⟨cc, cf⟩ := App.Ow.cellAt HO8.out Hyn.out.symm 0 (by rw [Hyn.out]; exact hp)
        have hst := App.Ow.set HO8.out Hyn.out.symm 0 x
        have HFw := hid hst.1
        have HPw : Hid (PB w1 g a cap bs L w2.heap.size s (.slice au head.length cu) (.slice av tail.length cv) head tail (at2 + 1 + n + 1 + 1) (w8.setCell ⟨gl, 0, none⟩ (.int .i64 x))) :=
          ⟨HP8.out.l.kept hst.2 (by simp; omega), HP8.out.su.kept hst.2 (fun j e => by cases e; omega), HP8.out.st.kept hst.2 (fun j e => by cases e; omega), src_grown HP8.out.src hst.2 (fun j e => by cases e; omega), HP8.out.ng⟩
        clear hs8 hg8 hst HP8 HO8 HPa HP7 HO7
        obtain ⟨l0, l1, l2, _⟩ := HPw.out.l.three
        obtain ⟨r0, r1, r2, f0, f1, f2⟩ := (HR.out.later HPw.out.src.2.1).three
        have hgR := grown_set3 (w8.setCell ⟨gl, 0, none⟩ (.int .i64 x)) w.heap.size (.int .i64 s) (.slice au head.length cu) (.slice av tail.length cv)
        have HU10 := hid (HPw.out.su.kept hgR (fun j e => by cases e; omega)).sl
        have HT10 := hid (HPw.out.st.kept hgR (fun j e => by cases e; omega)).sl
        have HF10 := hid (HFw.out.over (show w.heap.size < BF by omega) hgR)
        have HB10 := hid (below_cell (below_cell (below_cell (bthen HB.out HPw.out.src.2.1) (Nat.le_refl _) 0 (.int .i64 s)) (Nat.le_refl _) 1 (.slice au head.length cu)) (Nat.le_refl _) 2 (.slice av tail.length cv))
        clear HPw HFw hgR
        go_wp2
        exact bodyPost_ret (v := .tuple #[.agg #[.int .i64 s, .slice au head.length cu, .slice av tail.length cv], (.slice (some ⟨gl, 0, none⟩) n cl)]) (by simp [results, Tryd.results17, go_sem, r0, r1, r2]) rfl ⟨_, _, _, head, tail, _, ys.set 0 x, rfl, HU10.out, HT10.out, HF10.out.sl, Hf.out.1, Hf.out.2, HF10.out.fits, ⟨Hl.out.1, Hl.out.2, (by have := Hyn.out; rw [List.length_set]; omega)⟩, HB10.out⟩
      · obtain rfl : n = 0 := by omega
        have HPw := HP7
        have HFw := HO7
        clear HP7 HO7
        obtain ⟨l0, l1, l2, _⟩ := HPw.out.l.three
        obtain ⟨r0, r1, r2, f0, f1, f2⟩ := (HR.out.later HPw.out.src.2.1).three
        have hgR := grown_set3 W w.heap.size (.int .i64 s) (.slice au head.length cu) (.slice av tail.length cv)
        have HU10 := hid (HPw.out.su.kept hgR (fun j e => by cases e; omega)).sl
        have HT10 := hid (HPw.out.st.kept hgR (fun j e => by cases e; omega)).sl
        have HF10 := hid (HFw.out.over (show w.heap.size < BF by omega) hgR)
        have HB10 := hid (below_cell (below_cell (below_cell (bthen HB.out HPw.out.src.2.1) (Nat.le_refl _) 0 (.int .i64 s)) (Nat.le_refl _) 1 (.slice au head.length cu)) (Nat.le_refl _) 2 (.slice av tail.length cv))
        clear HPw HFw hgR
        go_wp2
        exact bodyPost_ret (v := .tuple #[.agg #[.int .i64 s, .slice au head.length cu, .slice av tail.length cv], (.slice (some ⟨gl, 0, none⟩) 0 cl)]) (by simp [results, Tryd.results17, go_sem, r0, r1, r2]) rfl ⟨_, _, _, head, tail, _, ys, rfl, HU10.out, HT10.out, HF10.out.sl, Hf.out.1, Hf.out.2, HF10.out.fits, ⟨Hl.out.1, Hl.out.2, (by have := Hyn.out; omega)⟩, HB10.out⟩
    · have b1 : (r == 1) = false := by simpa using k1
      have HPw := HP7
      have HFw := HO7
      clear HP7 HO7 k0 k1
      obtain ⟨l0, l1, l2, _⟩ := HPw.out.l.three
      obtain ⟨r0, r1, r2, f0, f1, f2⟩ := (HR.out.later HPw.out.src.2.1).three
      have hgR := grown_set3 W w.heap.size (.int .i64 s) (.slice au head.length cu) (.slice av tail.length cv)
      have HU10 := hid (HPw.out.su.kept hgR (fun j e => by cases e; omega)).sl
      have HT10 := hid (HPw.out.st.kept hgR (fun j e => by cases e; omega)).sl
      have HF10 := hid (HFw.out.over (show w.heap.size < BF by omega) hgR)
      have HB10 := hid (below_cell (below_cell (below_cell (bthen HB.out HPw.out.src.2.1) (Nat.le_refl _) 0 (.int .i64 s)) (Nat.le_refl _) 1 (.slice au head.length cu)) (Nat.le_refl _) 2 (.slice av tail.length cv))
      clear HPw HFw hgR
      go_wp2
      exact bodyPost_ret (v := .tuple #[.agg #[.int .i64 s, .slice au head.length cu, .slice av tail.length cv], (.slice (some ⟨gl, 0, none⟩) n cl)]) (by simp [results, Tryd.results17, go_sem, r0, r1, r2]) rfl ⟨_, _, _, head, tail, _, ys, rfl, HU10.out, HT10.out, HF10.out.sl, Hf.out.1, Hf.out.2, HF10.out.fits, ⟨Hl.out.1, Hl.out.2, (by have := Hyn.out; omega)⟩, HB10.out⟩
end Go.Proofs.YtobmngoodjmdaaaDoor.DrwJ
