/- The draw of a decoder and a slot. -/
import Derived.Test.YtdmaeipiikknnaaDrwD
import Derived.Deep.CutBlock
namespace Go.Proofs.Ytdmaeipiikknnaa.DrwT
open Go.ChangeShapes Go.WideShapes Go.ChangeAt Go.RowKit Go.Proofs.Ytdmaeipiikknnaa.Num Go.Proofs.Ytdmaeipiikknnaa.Sli Go.Proofs.Ytdmaeipiikknnaa.App Go.Proofs.Ytdmaeipiikknnaa.Byt Go.Proofs.Ytdmaeipiikknnaa.CrcM Go.Proofs.Ytdmaeipiikknnaa.Str Go.Proofs.Ytdmaeipiikknnaa.Div Go.Proofs.Ytdmaeipiikknnaa.Dec Go.Proofs.Ytdmaeipiikknnaa.Blk Go.Proofs.Ytdmaeipiikknnaa.Nxt Go.Proofs.Ytdmaeipiikknnaa.Byte Go.Proofs.Ytdmaeipiikknnaa.TakS Go.Proofs.Ytdmaeipiikknnaa.TakT Go.Proofs.Ytdmaeipiikknnaa.Src Go.Proofs.Ytdmaeipiikknnaa.DrwS Go.Proofs.Ytdmaeipiikknnaa.SomD Go.Proofs.Ytdmaeipiikknnaa.DrwD

structure DT (w : World) (g B C : Nat) (a : Option Addr) (cap : Nat) (bs : List Int) (at2 : Nat) (v : Value) (xs : List Int) (u r n lo sz tot : Int) (W : World) : Prop where
  s : Src w W g a cap bs at2
  z1 : Blk W w.heap.size #[.slice none 0 0, .int .i64 0, .int .i64 0, .int .i64 0] 25
  z2 : Blk W (w.heap.size + 1) #[.int .i64 0, .int .i64 0, .int .i64 0] 27
  d : Blk W B #[v, .int .i64 u, .int .i64 r, .int .i64 n] 25
  x : Blk W C #[.int .i64 lo, .int .i64 sz, .int .i64 tot] 27
  o : OwB w.heap.size W v xs
  lg : w.heap.size + 2 ≤ g
  lB : w.heap.size + 2 ≤ B
  lC : w.heap.size + 2 ≤ C
  gB : B ≠ g
  gC : C ≠ g
variable {w : World} {g B C : Nat} {a : Option Addr} {cap : Nat} {bs : List Int} {at2 at3 : Nat} {v : Value} {xs : List Int} {u r n lo sz tot : Int} {W W' : World}
theorem DT.later (h : DT w g B C a cap bs at2 v xs u r n lo sz tot W) (hb : Below W.heap.size W W') : DT w g B C a cap bs at2 v xs u r n lo sz tot W' :=
  ⟨src_later2 h.s hb, h.z1.later hb, h.z2.later hb, h.d.later hb, h.x.later hb, h.o.later hb, h.lg, h.lB, h.lC, h.gB, h.gC⟩
theorem DT.next (h : DT w g B C a cap bs at2 v xs u r n lo sz tot W) (hs : Src w W' g a cap bs at3) (hg : W.grownBy W' (some g)) : DT w g B C a cap bs at3 v xs u r n lo sz tot W' :=
  ⟨hs, h.z1.kept hg (by have := h.lg; simp; omega), h.z2.kept hg (by have := h.lg; simp; omega), h.d.kept hg (by simpa using fun e => h.gB e.symm), h.x.kept hg (by simpa using fun e => h.gC e.symm), ow_src h.s h.o hg, h.lg, h.lB, h.lC, h.gB, h.gC⟩
theorem DT.drew (h : DT w g B C a cap bs at2 v xs u r n lo sz tot W) (m : Nat) : DT w g B C a cap bs at2 v xs u r n lo sz tot (W.drewN m) := ⟨src_drew h.s m, h.z1, h.z2, h.d, h.x, h.o, h.lg, h.lB, h.lC, h.gB, h.gC⟩
/-- Both answers are stored. -/
theorem DT.fin (h : DT w g B C a cap bs at2 v xs u r n lo sz tot W) (x0 x1 x2 x3 y0 y1 y2 : Value) :
    OwB w.heap.size (((((((W.setCell ⟨w.heap.size, 0, none⟩ x0).setCell ⟨w.heap.size, 1, none⟩ x1).setCell ⟨w.heap.size, 2, none⟩ x2).setCell ⟨w.heap.size, 3, none⟩ x3).setCell ⟨w.heap.size + 1, 0, none⟩ y0).setCell ⟨w.heap.size + 1, 1, none⟩ y1).setCell ⟨w.heap.size + 1, 2, none⟩ y2) v xs ∧
    Below w.heap.size w (((((((W.setCell ⟨w.heap.size, 0, none⟩ x0).setCell ⟨w.heap.size, 1, none⟩ x1).setCell ⟨w.heap.size, 2, none⟩ x2).setCell ⟨w.heap.size, 3, none⟩ x3).setCell ⟨w.heap.size + 1, 0, none⟩ y0).setCell ⟨w.heap.size + 1, 1, none⟩ y1).setCell ⟨w.heap.size + 1, 2, none⟩ y2) := by
  have h1 := grown_set4 W w.heap.size x0 x1 x2 x3
  have hz2 := h.z2.kept h1 (by simp)
  have h2 := grown_set3 ((((W.setCell ⟨w.heap.size, 0, none⟩ x0).setCell ⟨w.heap.size, 1, none⟩ x1).setCell ⟨w.heap.size, 2, none⟩ x2).setCell ⟨w.heap.size, 3, none⟩ x3) (w.heap.size + 1) y0 y1 y2
  refine ⟨ow_apart (ow_apart h.o h.z1 (by decide) h1) hz2 (by decide) h2, ?_⟩
  have hb := h.s.2.1
  exact (hb.trans (below_of_grown h1 hb.size (fun j e => by cases e; exact Nat.le_refl _))).trans (below_of_grown h2 (Nat.le_trans hb.size h1.size) (fun j e => by cases e; omega))
theorem DT.fin' (h : DT w g B C a cap bs at2 v xs u r n lo sz tot W) (x0 x1 x2 x3 y0 y1 y2 : Value) :
    OwB w.heap.size (((((((W.setCell ⟨w.heap.size + 1, 0, none⟩ y0).setCell ⟨w.heap.size + 1, 1, none⟩ y1).setCell ⟨w.heap.size + 1, 2, none⟩ y2).setCell ⟨w.heap.size, 0, none⟩ x0).setCell ⟨w.heap.size, 1, none⟩ x1).setCell ⟨w.heap.size, 2, none⟩ x2).setCell ⟨w.heap.size, 3, none⟩ x3) v xs ∧
    Below w.heap.size w (((((((W.setCell ⟨w.heap.size + 1, 0, none⟩ y0).setCell ⟨w.heap.size + 1, 1, none⟩ y1).setCell ⟨w.heap.size + 1, 2, none⟩ y2).setCell ⟨w.heap.size, 0, none⟩ x0).setCell ⟨w.heap.size, 1, none⟩ x1).setCell ⟨w.heap.size, 2, none⟩ x2).setCell ⟨w.heap.size, 3, none⟩ x3) := by
  have h1 := grown_set3 W (w.heap.size + 1) y0 y1 y2
  have hz1 := h.z1.kept h1 (by simp)
  have h2 := grown_set4 (((W.setCell ⟨w.heap.size + 1, 0, none⟩ y0).setCell ⟨w.heap.size + 1, 1, none⟩ y1).setCell ⟨w.heap.size + 1, 2, none⟩ y2) w.heap.size x0 x1 x2 x3
  refine ⟨ow_apart (ow_apart h.o h.z2 (by decide) h1) hz1 (by decide) h2, ?_⟩
  have hb := h.s.2.1
  exact (hb.trans (below_of_grown h1 hb.size (fun j e => by cases e; omega))).trans (below_of_grown h2 (Nat.le_trans hb.size h1.size) (fun j e => by cases e; exact Nat.le_refl _))

theorem Blk.other3 {w : World} {b : Nat} {vs : Array Value} {t : TypeId} (h : Blk w b vs t) {b' : Nat} (hne : b' ≠ b) (x0 x1 x2 : Value) :
    Blk (((w.setCell ⟨b', 0, none⟩ x0).setCell ⟨b', 1, none⟩ x1).setCell ⟨b', 2, none⟩ x2) b vs t := ((h.other hne 0 x0).other hne 1 x1).other hne 2 x2
theorem DT.pair (h : DT w g B C a cap bs at2 v xs u r n lo sz tot W) : Blk W B #[v, .int .i64 u, .int .i64 r, .int .i64 n] 25 ∧ Blk W C #[.int .i64 lo, .int .i64 sz, .int .i64 tot] 27 := ⟨h.d, h.x⟩
theorem DT.pair4 (h : DT w g B C a cap bs at2 v xs u r n lo sz tot W) (x0 x1 x2 x3 : Value) :
    Blk ((((W.setCell ⟨w.heap.size, 0, none⟩ x0).setCell ⟨w.heap.size, 1, none⟩ x1).setCell ⟨w.heap.size, 2, none⟩ x2).setCell ⟨w.heap.size, 3, none⟩ x3) B #[v, .int .i64 u, .int .i64 r, .int .i64 n] 25 ∧
    Blk ((((W.setCell ⟨w.heap.size, 0, none⟩ x0).setCell ⟨w.heap.size, 1, none⟩ x1).setCell ⟨w.heap.size, 2, none⟩ x2).setCell ⟨w.heap.size, 3, none⟩ x3) C #[.int .i64 lo, .int .i64 sz, .int .i64 tot] 27 ∧
    Blk ((((W.setCell ⟨w.heap.size, 0, none⟩ x0).setCell ⟨w.heap.size, 1, none⟩ x1).setCell ⟨w.heap.size, 2, none⟩ x2).setCell ⟨w.heap.size, 3, none⟩ x3) (w.heap.size + 1) #[.int .i64 0, .int .i64 0, .int .i64 0] 27 := by
  have h1 := h.lB
  have h2 := h.lC
  exact ⟨Blk.other4 h.d (by omega) _ _ _ _, Blk.other4 h.x (by omega) _ _ _ _, Blk.other4 h.z2 (by omega) _ _ _ _⟩
theorem DT.pair7 (h : DT w g B C a cap bs at2 v xs u r n lo sz tot W) (x0 x1 x2 x3 y0 y1 y2 : Value) :
    Blk (((((((W.setCell ⟨w.heap.size, 0, none⟩ x0).setCell ⟨w.heap.size, 1, none⟩ x1).setCell ⟨w.heap.size, 2, none⟩ x2).setCell ⟨w.heap.size, 3, none⟩ x3).setCell ⟨w.heap.size + 1, 0, none⟩ y0).setCell ⟨w.heap.size + 1, 1, none⟩ y1).setCell ⟨w.heap.size + 1, 2, none⟩ y2) B #[v, .int .i64 u, .int .i64 r, .int .i64 n] 25 ∧
    Blk (((((((W.setCell ⟨w.heap.size, 0, none⟩ x0).setCell ⟨w.heap.size, 1, none⟩ x1).setCell ⟨w.heap.size, 2, none⟩ x2).setCell ⟨w.heap.size, 3, none⟩ x3).setCell ⟨w.heap.size + 1, 0, none⟩ y0).setCell ⟨w.heap.size + 1, 1, none⟩ y1).setCell ⟨w.heap.size + 1, 2, none⟩ y2) C #[.int .i64 lo, .int .i64 sz, .int .i64 tot] 27 := by
  have h1 := h.lB
  have h2 := h.lC
  obtain ⟨p1, p2, _⟩ := h.pair4 x0 x1 x2 x3
  exact ⟨Blk.other3 p1 (by omega) _ _ _, Blk.other3 p2 (by omega) _ _ _⟩

theorem blk_drew1 {W : World} {b : Nat} {vs : Array Value} {t : TypeId} (h : Blk W b vs t) : Blk W.drew b vs t := h
theorem ow_drew1 {base : Nat} {W : World} {v : Value} {xs : List Int} (h : OwB base W v xs) : OwB base W.drew v xs := h

set_option maxRecDepth 100000 in
set_option maxHeartbeats 2000000 in
theorem drawTake_calls (a : Option Addr) (cap : Nat) (bs : List Int) (w : World) (hsl : Sl .u8 w (.slice a bs.length cap) bs) (hbd : ∀ x ∈ bs, 0 ≤ x ∧ x ≤ 255) (hlen : bs.length ≤ 1048576) :
    Calls Try.prog 7 #[.slice a bs.length cap] w fun e w' => ∃ (v : Value) (xs : List Int) (u r n lo sz tot : Int), e = .returned (.tuple #[.agg #[v, .int .i64 u, .int .i64 r, .int .i64 n], .agg #[.int .i64 lo, .int .i64 sz, .int .i64 tot]]) ∧ OwB w.heap.size w' v xs ∧ BytesL xs ∧ xs.length ≤ 601 ∧ Below w.heap.size w w' := by
  have HS := hid hsl
  have HB := hid hbd
  have hb0 := bmore (bmore (Below.refl _ w) (.cells #[.slice none 0 0, .int .i64 0, .int .i64 0, .int .i64 0] 25)) (.cells #[.int .i64 0, .int .i64 0, .int .i64 0] 27)
  have HZ1 := hid ((Blk.new w #[.slice none 0 0, .int .i64 0, .int .i64 0, .int .i64 0] 25).alloc (.cells #[.int .i64 0, .int .i64 0, .int .i64 0] 27))
  have hz2 := Blk.new (w.alloc (.cells #[.slice none 0 0, .int .i64 0, .int .i64 0, .int .i64 0] 25)) #[.int .i64 0, .int .i64 0, .int .i64 0] 27
  rw [World.size_alloc] at hz2
  have HZ2 := hid hz2
  have HSr := hid (l1Source_calls a cap bs w _ hb0 hsl hbd hlen)
  clear hsl hbd hb0 hz2
  go_enter Try.func7, Try.ntmps7
  go_wp2_with fail
  refine HSr.out.mono ?_
  rintro e w1 ⟨g, rfl, hs1, hg1⟩
  have hgg := hid hs1
  have hsz1 : w.heap.size + 2 ≤ w1.heap.size := by have := hg1.size; simpa using this
  have HZ11 := hid (HZ1.out.kept hg1 (by simp))
  have HZ12 := hid (HZ2.out.kept hg1 (by simp))
  have hlg : w.heap.size + 2 ≤ g := by
    have h6 := hs1.2.2.2.2.2
    have h1 := hs1.1
    have c1 : g ≠ w.heap.size := by rintro rfl; rw [show w1.heap[w.heap.size]? = _ from HZ11.out] at h6; simp at h6
    have c2 : g ≠ w.heap.size + 1 := by rintro rfl; rw [show w1.heap[w.heap.size + 1]? = _ from HZ12.out] at h6; simp at h6
    omega
  clear hs1 hg1 HZ1 HZ2 HSr
  go_wp2_with fail
  refine (l3Decoder_calls w _ g a cap bs _ hgg.out (by omega)).mono ?_
  rintro e w2 ⟨v, xs, u, r, n, at2, rfl, ho2, hyb, hyl, hat2, hs2, hg2⟩
  obtain ⟨av, cv, rfl, _⟩ := ho2.sl
  have hsz2 := hg2.size
  have HS2 := hid (src_alloc hs2 (.cells #[.slice av xs.length cv, .int .i64 u, .int .i64 r, .int .i64 n] 25))
  have hgl2 := src_lt hs2
  have HZ21 := hid ((HZ11.out.kept hg2 (by simp; omega)).alloc (.cells #[.slice av xs.length cv, .int .i64 u, .int .i64 r, .int .i64 n] 25))
  have HZ22 := hid ((HZ12.out.kept hg2 (by simp; omega)).alloc (.cells #[.slice av xs.length cv, .int .i64 u, .int .i64 r, .int .i64 n] 25))
  have HD2 := hid (Blk.new w2 #[.slice av xs.length cv, .int .i64 u, .int .i64 r, .int .i64 n] 25)
  have HO2 := hid ((ho2.mono (base' := w.heap.size) (by omega)).alloc (.cells #[.slice av xs.length cv, .int .i64 u, .int .i64 r, .int .i64 n] 25))
  clear hs2 hg2 ho2 HZ11 HZ12 hgg
  go_wp2_with fail
  refine (l3Bent_calls w _ g a cap bs _ HS2.out (by omega)).mono ?_
  rintro e w3 ⟨lo, sz, tot, at3, rfl, hat3, hs3, hg3⟩
  have hsz3 := hg3.size
  rw [World.size_alloc] at hsz3
  have hD : DT w g w2.heap.size w3.heap.size a cap bs at3 (.slice av xs.length cv) xs u r n lo sz tot (w3.alloc (.cells #[.int .i64 lo, .int .i64 sz, .int .i64 tot] 27)) :=
    ⟨src_alloc hs3 _, (HZ21.out.kept hg3 (by simp; omega)).alloc _, (HZ22.out.kept hg3 (by simp; omega)).alloc _, (HD2.out.kept hg3 (by simp; omega)).alloc _, Blk.new _ _ _, (ow_src HS2.out HO2.out hg3).alloc _, hlg, by omega, by omega, by omega, by omega⟩
  have HD := hid hD
  clear hD hs3 hg3 HZ21 HZ22 HD2 HO2 HS2
  go_upto_region 4 with fail
  generalize w3.alloc (.cells #[.int .i64 lo, .int .i64 sz, .int .i64 tot] 27) = w4 at *
  generalize w2.heap.size = B at *
  generalize w3.heap.size = C at *
  go_cut [26] from 15 to 26 (fun t wc => ∃ (b : Bool) (at4 : Nat), t = .bool b ∧ at4 ≤ 20000 ∧ (b = false → dF xs.length u r n = 0 ∧ sF lo sz tot = 0) ∧ Hid (DT w g B C a cap bs at4 (.slice av xs.length cv) xs u r n lo sz tot wc))
  case first =>
    go_wp2_with fail
    refine (l1Chance_calls w _ g a cap bs _ 3 HD.out.s (by omega) (by omega) (by omega)).mono ?_
    rintro e w5 ⟨c, rfl, hs5, hg5⟩
    have HD5 := hid (HD.out.next hs5 hg5)
    clear hs5 hg5 HD
    cases c
    · obtain ⟨d0, d1, d2, d3, _⟩ := HD5.out.d.four
      go_wp2_with fail
      refine (specDF_calls _ _ _ _ _ _ _ (by omega)).mono ?_
      rintro e w6 ⟨rfl, hb6⟩
      have HD6 := hid (HD5.out.later hb6)
      clear hb6 HD5 d0 d1 d2 d3
      by_cases hd : dF xs.length u r n = 0
      · have hd' : (dF xs.length u r n != 0) = false := by simpa using hd
        obtain ⟨x0, x1, x2, _⟩ := HD6.out.x.three
        go_wp2_with fail
        refine (specSF_calls _ _ _ _).mono ?_
        rintro e w7 ⟨rfl, hb7⟩
        have HD7 := hid (HD6.out.later hb7)
        clear hb7 HD6 x0 x1 x2
        go_wp2_with fail
        go_meet
        case rel => exact ⟨_, _, rfl, by omega, fun h => ⟨hd, by simpa using h⟩, HD7.out⟩
      · have hd' : (dF xs.length u r n != 0) = true := by simpa using hd
        go_wp2_with fail
        go_meet
        case rel => exact ⟨_, _, rfl, by omega, (fun h => (by cases h)), HD6.out⟩
    · go_wp2_with fail
      go_meet
      case rel => exact ⟨_, _, rfl, by omega, (fun h => (by cases h)), HD5.out⟩
  case rest =>
    obtain ⟨b, at4, rfl, hat4, hbb, HD4⟩ := hcut
    cases b
    · obtain ⟨hd, hs⟩ := hbb rfl
      obtain ⟨_, _, ⟨h1, h2⟩, h8, h9⟩ := of_dF hd
      obtain ⟨⟨h3, h4⟩, ⟨h5, h5'⟩, h6, h7⟩ := of_sF hs
      clear hbb HD
      obtain ⟨d0, d1, d2, d3, _⟩ := HD4.out.d.four
      obtain ⟨x0, x1, x2, _⟩ := HD4.out.x.three
      go_wp2_with fail
      refine (l3Value_calls B r n tot _ d2 d3 h1 h2 h3 h4 h8 (by omega)).mono ?_
      rintro e w5 ⟨rfl, m5, rfl⟩
      have HD5 := hid (HD4.out.drew m5)
      obtain ⟨⟨v1, v2⟩, _⟩ := step_ok' xs hyb 0 r n tot ⟨⟨h1, h2⟩, h8, by omega⟩ h3 h4
      clear HD4 d0 d1 d2 d3 x0 x1 x2
      generalize nV r n tot = q at *
      go_wp2_with fail
      refine (l1Next_calls w _ g a cap bs _ (q + 1) HD5.out.s (by omega) (by omega) (by omega)).mono ?_
      rintro e w6 ⟨l, rfl, l1, l2, hs6, hg6⟩
      have hD6 := HD5.out.next hs6 hg6
      have HD6 : Hid (DT w g B C a cap bs (at4 + 1) (.slice av xs.length cv) xs u r n lo sz tot w6.drew) := hD6.drew 1
      have k1 : IntKind.i64.wrap (q - l) = q - l := wrapk_of (by omega) (by omega)
      have k2 : IntKind.i64.wrap (q - l + 1) = q - l + 1 := wrapk_of (by omega) (by omega)
      have k3 : IntKind.i64.wrap (tot - q) = tot - q := wrapk_of (by omega) (by omega)
      clear hs6 hg6 HD5 hD6
      obtain ⟨d0, d1, d2, d3, _⟩ := HD6.out.d.four
      obtain ⟨x0, x1, x2, _⟩ := HD6.out.x.three
      go_wp2_with fail
      refine wp_region_noPanic ?_
      refine wp_region_held_drew (S := fun W => Blk W B #[.slice av xs.length cv, .int .i64 u, .int .i64 r, .int .i64 n] 25 ∧ Blk W C #[.int .i64 lo, .int .i64 sz, .int .i64 tot] 27) (by kernel_rfl) (by first | exact ⟨HY.out.1, HY.out.2.1⟩ | exact HY.out | exact ⟨HD7.out.d, HD7.out.x⟩ | exact ⟨HD6.out.d, HD6.out.x⟩) (fun hHeld => ?_)
      (refine wpAnyH_take (i := 0) (v := ?_) rfl (by kernel_rfl) (by kernel_rfl) (by kernel_rfl) (fun _ _ _ h => h) (Or.inl ⟨by rfl, ?_⟩) hHeld ?_; rotate_left; (intro w hSw; (obtain ⟨c0, c1, c2, c3, _⟩ := hSw.1.four; obtain ⟨e0, e1, e2, _⟩ := hSw.2.three; clear hSw); (go_simp <;> with_reducible rfl)); simp only [List.getElem_toArray, List.getElem_cons_zero, Act.put, List.setIfInBounds_toArray, List.set_cons_zero, List.set_cons_succ])
      (refine wpAnyH_take (i := 1) (v := ?_) rfl (by kernel_rfl) (by kernel_rfl) (by kernel_rfl) (fun _ _ _ h => h) (Or.inl ⟨by rfl, ?_⟩) hHeld ?_; rotate_left; (intro w hSw; (obtain ⟨c0, c1, c2, c3, _⟩ := hSw.1.four; obtain ⟨e0, e1, e2, _⟩ := hSw.2.three; clear hSw); (go_simp <;> with_reducible rfl)); simp only [List.getElem_toArray, List.getElem_cons_zero, List.getElem_cons_succ, Act.put, List.setIfInBounds_toArray, List.set_cons_zero, List.set_cons_succ])
      (refine wpAnyH_take (i := 2) (v := ?_) rfl (by kernel_rfl) (by kernel_rfl) (by kernel_rfl) (fun _ _ _ h => h) (Or.inl ⟨by rfl, ?_⟩) hHeld ?_; rotate_left; (intro w hSw; (obtain ⟨c0, c1, c2, c3, _⟩ := hSw.1.four; obtain ⟨e0, e1, e2, _⟩ := hSw.2.three; clear hSw); (go_simp <;> with_reducible rfl)); simp only [List.getElem_toArray, List.getElem_cons_zero, List.getElem_cons_succ, Act.put, List.setIfInBounds_toArray, List.set_cons_zero, List.set_cons_succ])
      (refine wpAnyH_take (i := 3) (v := ?_) rfl (by kernel_rfl) (by kernel_rfl) (by kernel_rfl) (fun _ _ _ h => h) (Or.inl ⟨by rfl, ?_⟩) hHeld ?_; rotate_left; (intro w hSw; (obtain ⟨c0, c1, c2, c3, _⟩ := hSw.1.four; obtain ⟨e0, e1, e2, _⟩ := hSw.2.three; clear hSw); (go_simp <;> with_reducible rfl)); simp only [List.getElem_toArray, List.getElem_cons_zero, List.getElem_cons_succ, Act.put, List.setIfInBounds_toArray, List.set_cons_zero, List.set_cons_succ])
      (refine wpAnyH_take (i := 4) (v := ?_) rfl (by kernel_rfl) (by kernel_rfl) (by kernel_rfl) (fun _ _ _ h => h) (Or.inl ⟨by rfl, ?_⟩) hHeld ?_; rotate_left; (intro w hSw; (obtain ⟨c0, c1, c2, c3, _⟩ := hSw.1.four; obtain ⟨e0, e1, e2, _⟩ := hSw.2.three; clear hSw); (go_simp <;> with_reducible rfl)); simp only [List.getElem_toArray, List.getElem_cons_zero, List.getElem_cons_succ, Act.put, List.setIfInBounds_toArray, List.set_cons_zero, List.set_cons_succ])
      (refine wpAnyH_take (i := 5) (v := ?_) rfl (by kernel_rfl) (by kernel_rfl) (by kernel_rfl) (fun _ _ _ h => h) (Or.inl ⟨by rfl, ?_⟩) hHeld ?_; rotate_left; (intro w hSw; (obtain ⟨c0, c1, c2, c3, _⟩ := hSw.1.four; obtain ⟨e0, e1, e2, _⟩ := hSw.2.three; clear hSw); (go_simp <;> with_reducible rfl)); simp only [List.getElem_toArray, List.getElem_cons_zero, List.getElem_cons_succ, Act.put, List.setIfInBounds_toArray, List.set_cons_zero, List.set_cons_succ])
      (refine wpAnyH_take (i := 6) (v := ?_) rfl (by kernel_rfl) (by kernel_rfl) (by kernel_rfl) (fun _ _ _ h => h) (Or.inl ⟨by rfl, ?_⟩) hHeld ?_; rotate_left; (intro w hSw; (obtain ⟨c0, c1, c2, c3, _⟩ := hSw.1.four; obtain ⟨e0, e1, e2, _⟩ := hSw.2.three; clear hSw); (go_simp <;> with_reducible rfl)); simp only [List.getElem_toArray, List.getElem_cons_zero, List.getElem_cons_succ, Act.put, List.setIfInBounds_toArray, List.set_cons_zero, List.set_cons_succ])
      (refine wpAnyH_take (i := 7) (v := ?_) rfl (by kernel_rfl) (by kernel_rfl) (by kernel_rfl) (fun _ _ _ h => h) (Or.inl ⟨by rfl, ?_⟩) hHeld ?_; rotate_left; (intro w hSw; (obtain ⟨c0, c1, c2, c3, _⟩ := hSw.1.four; obtain ⟨e0, e1, e2, _⟩ := hSw.2.three; clear hSw); (go_simp <;> with_reducible rfl)); simp only [List.getElem_toArray, List.getElem_cons_zero, List.getElem_cons_succ, Act.put, List.setIfInBounds_toArray, List.set_cons_zero, List.set_cons_succ])
      (refine wpAnyH_take (i := 8) (v := ?_) rfl (by kernel_rfl) (by kernel_rfl) (by kernel_rfl) (fun _ _ _ h => h) (Or.inl ⟨by rfl, ?_⟩) hHeld ?_; rotate_left; (intro w hSw; (obtain ⟨c0, c1, c2, c3, _⟩ := hSw.1.four; obtain ⟨e0, e1, e2, _⟩ := hSw.2.three; clear hSw); (go_simp <;> with_reducible rfl)); simp only [List.getElem_toArray, List.getElem_cons_zero, List.getElem_cons_succ, Act.put, List.setIfInBounds_toArray, List.set_cons_zero, List.set_cons_succ])
      (refine wpAnyH_take (i := 9) (v := ?_) rfl (by kernel_rfl) (by kernel_rfl) (by kernel_rfl) (fun _ _ _ h => h) (Or.inl ⟨by rfl, ?_⟩) hHeld ?_; rotate_left; (intro w hSw; (obtain ⟨c0, c1, c2, c3, _⟩ := hSw.1.four; obtain ⟨e0, e1, e2, _⟩ := hSw.2.three; clear hSw); (go_simp <;> with_reducible rfl)); simp only [List.getElem_toArray, List.getElem_cons_zero, List.getElem_cons_succ, Act.put, List.setIfInBounds_toArray, List.set_cons_zero, List.set_cons_succ])
      (refine wpAnyH_take (i := 10) (v := ?_) rfl (by kernel_rfl) (by kernel_rfl) (by kernel_rfl) (fun _ _ _ h => h) (Or.inl ⟨by rfl, ?_⟩) hHeld ?_; rotate_left; (intro w hSw; (obtain ⟨c0, c1, c2, c3, _⟩ := hSw.1.four; obtain ⟨e0, e1, e2, _⟩ := hSw.2.three; clear hSw); (go_simp <;> with_reducible rfl)); simp only [List.getElem_toArray, List.getElem_cons_zero, List.getElem_cons_succ, Act.put, List.setIfInBounds_toArray, List.set_cons_zero, List.set_cons_succ])
      (refine wpAnyH_take (i := 13) (v := ?_) rfl (by kernel_rfl) (by kernel_rfl) (by kernel_rfl) (fun _ _ _ h => h) (Or.inl ⟨by rfl, ?_⟩) hHeld ?_; rotate_left; (intro w hSw; (obtain ⟨c0, c1, c2, c3, _⟩ := hSw.1.four; obtain ⟨e0, e1, e2, _⟩ := hSw.2.three; clear hSw); (go_simp <;> with_reducible rfl)); simp only [List.getElem_toArray, List.getElem_cons_zero, List.getElem_cons_succ, Act.put, List.setIfInBounds_toArray, List.set_cons_zero, List.set_cons_succ])
      (refine wpAnyH_take (i := 14) (v := ?_) rfl (by kernel_rfl) (by kernel_rfl) (by kernel_rfl) (fun _ _ _ h => h) (Or.inl ⟨by rfl, ?_⟩) hHeld ?_; rotate_left; (intro w hSw; (obtain ⟨c0, c1, c2, c3, _⟩ := hSw.1.four; obtain ⟨e0, e1, e2, _⟩ := hSw.2.three; clear hSw); (go_simp <;> with_reducible rfl)); simp only [List.getElem_toArray, List.getElem_cons_zero, List.getElem_cons_succ, Act.put, List.setIfInBounds_toArray, List.set_cons_zero, List.set_cons_succ])
      refine wpAnyH_ready (rs := [11]) (by kernel_rfl) (by simp) ?_
      refine (AllReadyH.cons rfl (fun K hK => ?_) AllReadyH.nil)
      go_simp
      (refine (l1Next_calls w _ g a cap bs _ (tot - q) HD6.out.s (by omega) (by omega) (by omega)).mono ?_; rintro e w7 ⟨z, rfl, z1, z2, hs7, hg7⟩; have HD7 := hid (HD6.out.next hs7 hg7); have k4 : IntKind.i64.wrap (q - l + 1 + z) = q - l + 1 + z := wrapk_of (by omega) (by omega); obtain ⟨a0, a1, a2, a3, af0, af1, af2, af3⟩ := HD7.out.z1.four; obtain ⟨b0, b1, b2, bf0, bf1, bf2⟩ := HD7.out.z2.three)
      refine hK.out _ _ (by first | exact ⟨HY.out.1, HY.out.2.1⟩ | exact HY.out | exact ⟨HD7.out.d, HD7.out.x⟩ | exact ⟨HD6.out.d, HD6.out.x⟩) (fun hHeld => ?_)
      clear hK K
      try dsimp only
      (refine wpAnyH_take (i := 12) (v := ?_) rfl (by kernel_rfl) (by kernel_rfl) (by kernel_rfl) (fun _ _ _ h => h) (Or.inl ⟨by rfl, ?_⟩) hHeld ?_; rotate_left; (intro w hSw; (obtain ⟨c0, c1, c2, c3, _⟩ := hSw.1.four; obtain ⟨e0, e1, e2, _⟩ := hSw.2.three; clear hSw); (go_simp <;> with_reducible rfl)); simp only [List.getElem_toArray, List.getElem_cons_zero, List.getElem_cons_succ, Act.put, List.setIfInBounds_toArray, List.set_cons_zero, List.set_cons_succ])
      (refine wpAnyH_take (i := 15) (v := ?_) rfl (by kernel_rfl) (by kernel_rfl) (by kernel_rfl) (fun _ _ _ h => h) (Or.inl ⟨by rfl, ?_⟩) hHeld ?_; rotate_left; (intro w hSw; (obtain ⟨c0, c1, c2, c3, _⟩ := hSw.1.four; obtain ⟨e0, e1, e2, _⟩ := hSw.2.three; clear hSw); (go_simp <;> with_reducible rfl)); simp only [List.getElem_toArray, List.getElem_cons_zero, List.getElem_cons_succ, Act.put, List.setIfInBounds_toArray, List.set_cons_zero, List.set_cons_succ])
      refine wpAnyH_ready (rs := [16]) (by kernel_rfl) (by simp) ?_
      refine (AllReadyH.cons rfl (fun K hK => ?_) AllReadyH.nil)
      go_simp
      (have HY := hid (HD7.out.pair4 (.slice av xs.length cv) (.int .i64 u) (.int .i64 r) (.int .i64 n)); obtain ⟨b0, b1, b2, bf0, bf1, bf2⟩ := HY.out.2.2.three)
      refine hK.out _ _ (by first | exact ⟨HY.out.1, HY.out.2.1⟩ | exact HY.out | exact ⟨HD7.out.d, HD7.out.x⟩ | exact ⟨HD6.out.d, HD6.out.x⟩) (fun hHeld => ?_)
      clear hK K
      try simp only [List.getElem_toArray, List.getElem_cons_zero, List.getElem_cons_succ, Act.put, List.setIfInBounds_toArray, List.set_cons_zero, List.set_cons_succ]
      refine wpAnyH_ready (rs := [17]) (by kernel_rfl) (by simp) ?_
      refine (AllReadyH.cons rfl (fun K hK => ?_) AllReadyH.nil)
      go_simp
      (have HY := hid (HD7.out.pair7 (.slice av xs.length cv) (.int .i64 u) (.int .i64 r) (.int .i64 n) (.int .i64 l) (.int .i64 (q - l + 1 + z)) (.int .i64 tot)))
      refine hK.out _ _ (by first | exact ⟨HY.out.1, HY.out.2.1⟩ | exact HY.out | exact ⟨HD7.out.d, HD7.out.x⟩ | exact ⟨HD6.out.d, HD6.out.x⟩) (fun hHeld => ?_)
      clear hK K
      try simp only [List.getElem_toArray, List.getElem_cons_zero, List.getElem_cons_succ, Act.put, List.setIfInBounds_toArray, List.set_cons_zero, List.set_cons_succ]
      refine wpAnyH_done (by kernel_rfl) ?_ _
      refine NoPanic.normal ?_
      go_wp2
      exact bodyPost_ret (v := .tuple #[.agg #[.slice av xs.length cv, .int .i64 u, .int .i64 r, .int .i64 n], .agg #[.int .i64 (l), .int .i64 (q - l + 1 + z), .int .i64 tot]]) (by simp [results, Try.results7, go_sem, a0, a1, a2, a3, b0, b1, b2]) rfl ⟨_, xs, _, _, _, _, _, _, rfl, (HD7.out.fin (.slice av xs.length cv) (.int .i64 u) (.int .i64 r) (.int .i64 n) (.int .i64 l) (.int .i64 (q - l + 1 + z)) (.int .i64 tot)).1, hyb, hyl, (HD7.out.fin (.slice av xs.length cv) (.int .i64 u) (.int .i64 r) (.int .i64 n) (.int .i64 l) (.int .i64 (q - l + 1 + z)) (.int .i64 tot)).2⟩
    · clear hbb HD
      have HD5 := HD4
      clear HD4
      obtain ⟨a0, a1, a2, a3, af0, af1, af2, af3⟩ := HD5.out.z1.four
      obtain ⟨b0, b1, b2, bf0, bf1, bf2⟩ := HD5.out.z2.three
      go_wp2_with fail
      refine wp_region_noPanic ?_
      refine wp_region_held_drew (S := fun W => Blk W B #[.slice av xs.length cv, .int .i64 u, .int .i64 r, .int .i64 n] 25 ∧ Blk W C #[.int .i64 lo, .int .i64 sz, .int .i64 tot] 27) (by kernel_rfl) (by first | exact HY.out | exact ⟨HD5.out.d, HD5.out.x⟩) (fun hHeld => ?_)
      (refine wpAnyH_take (i := 0) (v := ?_) rfl (by kernel_rfl) (by kernel_rfl) (by kernel_rfl) (fun _ _ _ h => h) (Or.inl ⟨by rfl, ?_⟩) hHeld ?_; rotate_left; (intro w hSw; (obtain ⟨c0, c1, c2, c3, _⟩ := hSw.1.four; obtain ⟨e0, e1, e2, _⟩ := hSw.2.three; clear hSw); (go_simp <;> with_reducible rfl)); simp only [List.getElem_toArray, List.getElem_cons_zero, Act.put, List.setIfInBounds_toArray, List.set_cons_zero, List.set_cons_succ])
      (refine wpAnyH_take (i := 1) (v := ?_) rfl (by kernel_rfl) (by kernel_rfl) (by kernel_rfl) (fun _ _ _ h => h) (Or.inl ⟨by rfl, ?_⟩) hHeld ?_; rotate_left; (intro w hSw; (obtain ⟨c0, c1, c2, c3, _⟩ := hSw.1.four; obtain ⟨e0, e1, e2, _⟩ := hSw.2.three; clear hSw); (go_simp <;> with_reducible rfl)); simp only [List.getElem_toArray, List.getElem_cons_zero, List.getElem_cons_succ, Act.put, List.setIfInBounds_toArray, List.set_cons_zero, List.set_cons_succ])
      refine wpAnyH_ready (rs := [2]) (by kernel_rfl) (by simp) ?_
      refine (AllReadyH.cons rfl (fun K hK => ?_) AllReadyH.nil)
      go_simp
      (have HYa := hid (HD5.out.pair4 (.slice av xs.length cv) (.int .i64 u) (.int .i64 r) (.int .i64 n)); have HY := hid (And.intro (blk_drew1 HYa.out.1) (blk_drew1 HYa.out.2.1)); obtain ⟨b0, b1, b2, bf0, bf1, bf2⟩ := HYa.out.2.2.three; clear HYa)
      refine hK.out _ _ (by first | exact HY.out | exact ⟨HD5.out.d, HD5.out.x⟩) (fun hHeld => ?_)
      clear hK K
      try simp only [List.getElem_toArray, List.getElem_cons_zero, List.getElem_cons_succ, Act.put, List.setIfInBounds_toArray, List.set_cons_zero, List.set_cons_succ]
      refine wpAnyH_ready (rs := [3]) (by kernel_rfl) (by simp) ?_
      refine (AllReadyH.cons rfl (fun K hK => ?_) AllReadyH.nil)
      go_simp
      (have HYa := hid (HD5.out.pair7 (.slice av xs.length cv) (.int .i64 u) (.int .i64 r) (.int .i64 n) (.int .i64 lo) (.int .i64 sz) (.int .i64 tot)); have HY := hid (And.intro (blk_drew1 HYa.out.1) (blk_drew1 HYa.out.2)); clear HYa)
      refine hK.out _ _ (by first | exact HY.out | exact ⟨HD5.out.d, HD5.out.x⟩) (fun hHeld => ?_)
      clear hK K
      try simp only [List.getElem_toArray, List.getElem_cons_zero, List.getElem_cons_succ, Act.put, List.setIfInBounds_toArray, List.set_cons_zero, List.set_cons_succ]
      refine wpAnyH_done (by kernel_rfl) ?_ _
      refine NoPanic.normal ?_
      go_wp2
      exact bodyPost_ret (v := .tuple #[.agg #[.slice av xs.length cv, .int .i64 u, .int .i64 r, .int .i64 n], .agg #[.int .i64 (lo), .int .i64 (sz), .int .i64 tot]]) (by simp [results, Try.results7, go_sem, a0, a1, a2, a3, b0, b1, b2]) rfl ⟨_, xs, _, _, _, _, _, _, rfl, ow_drew1 (HD5.out.fin (.slice av xs.length cv) (.int .i64 u) (.int .i64 r) (.int .i64 n) (.int .i64 lo) (.int .i64 sz) (.int .i64 tot)).1, hyb, hyl, (drewB (HD5.out.fin (.slice av xs.length cv) (.int .i64 u) (.int .i64 r) (.int .i64 n) (.int .i64 lo) (.int .i64 sz) (.int .i64 tot)).2)⟩
end Go.Proofs.Ytdmaeipiikknnaa.DrwT
