/- The draws of chapter 3: decoders. -/
import Derived.Test.YtdmaeipiikknnaaDrwS
import Derived.Test.YtdmaeipiikknnaaSomD
namespace Go.Proofs.Ytdmaeipiikknnaa.DrwD
open Go.ChangeShapes Go.WideShapes Go.ChangeAt Go.RowKit Go.Proofs.Ytdmaeipiikknnaa.Num Go.Proofs.Ytdmaeipiikknnaa.Sli Go.Proofs.Ytdmaeipiikknnaa.App Go.Proofs.Ytdmaeipiikknnaa.Byt Go.Proofs.Ytdmaeipiikknnaa.CrcM Go.Proofs.Ytdmaeipiikknnaa.Str Go.Proofs.Ytdmaeipiikknnaa.Div Go.Proofs.Ytdmaeipiikknnaa.Dec Go.Proofs.Ytdmaeipiikknnaa.Blk Go.Proofs.Ytdmaeipiikknnaa.Nxt Go.Proofs.Ytdmaeipiikknnaa.Byte Go.Proofs.Ytdmaeipiikknnaa.TakS Go.Proofs.Ytdmaeipiikknnaa.TakT Go.Proofs.Ytdmaeipiikknnaa.Src Go.Proofs.Ytdmaeipiikknnaa.DrwS Go.Proofs.Ytdmaeipiikknnaa.SomD

/-- What a decoder keeps to while it is read. -/
def okD (rst rng : Int) : Prop := (65536 ≤ rng ∧ rng ≤ 16777216) ∧ (0 ≤ rst ∧ rst < rng)
theorem start_ok (xs : List Int) (hx : BytesL xs) : okD (pull xs 0 0 3) 16777216 := by
  have h := pull_bd xs hx 0 0 1 (by omega) (by omega) 3
  have hu : up 1 3 = 16777216 := by simp [up]
  rw [hu] at h
  exact ⟨⟨by omega, by omega⟩, h⟩
/-- A slot of one that holds the next value leaves a decoder that keeps to it. -/
theorem step_ok' (xs : List Int) (hx : BytesL xs) (k : Nat) (rst rng tot : Int) (h : okD rst rng) (h3 : 1 ≤ tot) (h4 : tot ≤ 1024) :
    (0 ≤ nV rst rng tot ∧ nV rst rng tot + 1 ≤ tot) ∧ 0 ≤ rst - rng / tot * nV rst rng tot ∧ rst - rng / tot * nV rst rng tot < narI rng (nV rst rng tot) 1 tot ∧
      okD (pull xs k (rst - rng / tot * nV rst rng tot) (shI (narI rng (nV rst rng tot) 1 tot))) (up (narI rng (nV rst rng tot) 1 tot) (shI (narI rng (nV rst rng tot) 1 tot))) := by
  obtain ⟨⟨h1, h2⟩, h8, h9⟩ := h
  obtain ⟨_, b1, _⟩ := unit_bd rng tot h1 h2 h3 h4
  have hv := val_bd rst (rng / tot) h8 (by omega) b1
  have hn : 0 ≤ nV rst rng tot ∧ nV rst rng tot + 1 ≤ tot := by unfold nV; omega
  obtain ⟨r1, r2⟩ := slot_in rst rng (nV rst rng tot) 1 tot h1 h2 h3 h4 (by omega) h9 (by omega) (by omega)
  obtain ⟨m1, m2, m3⟩ := narI_bd rng (nV rst rng tot) 1 tot h1 h2 h3 h4 (by omega) (by omega) (by omega)
  refine ⟨hn, r1, r2, ?_⟩
  generalize narI rng (nV rst rng tot) 1 tot = N at *
  obtain ⟨u1, u2, _, u4⟩ := up_bd N m1 (by omega) (shI N) (Nat.le_refl _)
  exact ⟨⟨u4 rfl, u2⟩, pull_bd xs hx k _ _ r1 r2 _⟩

/-- A decoder under way in block X. -/
structure DS (w0 w : World) (g X : Nat) (a : Option Addr) (cap : Nat) (bs : List Int) (at2 : Nat) (v : Value) (xs : List Int) (k r n : Int) (W : World) : Prop where
  s : Src w0 W g a cap bs at2
  z : Blk W w.heap.size #[.slice none 0 0, .int .i64 0, .int .i64 0, .int .i64 0] 25
  x : Blk W X #[v, .int .i64 k, .int .i64 r, .int .i64 n] 25
  o : OwB w.heap.size W v xs
  gr : w.grownBy W (some g)
variable {w0 w : World} {g X : Nat} {a : Option Addr} {cap : Nat} {bs : List Int} {at2 at3 : Nat} {v : Value} {xs : List Int} {k r n k' r' n' : Int} {W W' : World}
theorem src_not_own {base : Nat} (h : Src w0 W g a cap bs at2) (ho : OwB base W v xs) : ∀ j, v.ownBlock = some j → j ≠ g := by
  intro j e hj
  subst hj
  have h' : W.ownsRow base 5 1 v xs.length (xs.map (Value.int .u8)) := ho
  rcases h'.2 with ⟨rfl, _⟩ | ⟨g', c', cur, rfl, _, hgb, _⟩
  · simp [Value.ownBlock] at e
  · obtain rfl : g' = j := by simpa [Value.ownBlock] using e
    have := h.2.2.2.2.2.symm.trans hgb
    simp at this
theorem ow_src {base : Nat} (h : Src w0 W g a cap bs at2) (ho : OwB base W v xs) (hg : W.grownBy W' (some g)) : OwB base W' v xs := by
  have h' : W.ownsRow base 5 1 v xs.length (xs.map (Value.int .u8)) := ho
  refine h'.kept hg ?_
  cases hv : v.ownBlock with
  | none => exact Or.inl rfl
  | some j => exact Or.inr fun e => src_not_own h ho j hv (by simpa using e)
theorem DS.next (h : DS w0 w g X a cap bs at2 v xs k r n W) (hs : Src w0 W' g a cap bs at3) (hg : W.grownBy W' (some g)) (hX : X ≠ g) (hw : w.heap.size ≠ g) : DS w0 w g X a cap bs at3 v xs k r n W' :=
  ⟨hs, h.z.kept hg (by simpa using fun e => hw e.symm), h.x.kept hg (by simpa using fun e => hX e.symm), ow_src h.s h.o hg, grown_two h.gr hg⟩
theorem DS.turn (h : DS w0 w g X a cap bs at2 v xs k r n W) (hx : Blk W' X #[v, .int .i64 k', .int .i64 r', .int .i64 n'] 25) (hg : W.grownBy W' (some X)) (hX : X ≠ g) (hw : w.heap.size < X) (h0 : w0.heap.size ≤ w.heap.size) : DS w0 w g X a cap bs at2 v xs k' r' n' W' :=
  ⟨src_kept h.s hg (fun j e => by cases e; exact ⟨hX, by omega⟩), h.z.kept hg (by simp; omega), hx, ow_apart h.o h.x (by decide) hg, grown_new h.gr hg (by omega)⟩
theorem DS.alloc (h : DS w0 w g X a cap bs at2 v xs k r n W) (o : Obj) : DS w0 w g X a cap bs at2 v xs k r n (W.alloc o) :=
  ⟨src_alloc h.s o, h.z.alloc o, h.x.alloc o, h.o.alloc o, grown_thenX h.gr (bmore (Below.refl _ _) o)⟩
theorem DS.drew (h : DS w0 w g X a cap bs at2 v xs k r n W) (m : Nat) : DS w0 w g X a cap bs at2 v xs k r n (W.drewN m) := ⟨src_drew h.s m, h.z, h.x, h.o, grown_drew h.gr m⟩

set_option maxHeartbeats 2000000 in
theorem l3Decoder_calls (w0 w : World) (g : Nat) (a : Option Addr) (cap : Nat) (bs : List Int) (at' : Nat) (h : Src w0 w g a cap bs at') (hat : at' ≤ 70000) :
    Calls Try.prog 22 #[.pointer (some ⟨g, 0, none⟩)] w fun e w' => ∃ (v : Value) (xs : List Int) (u r n : Int) (at2 : Nat), e = .returned (.agg #[v, .int .i64 u, .int .i64 r, .int .i64 n]) ∧ OwB w.heap.size w' v xs ∧ BytesL xs ∧ xs.length ≤ 601 ∧ at2 ≤ at' + 700 ∧ Src w0 w' g a cap bs at2 ∧ w.grownBy w' (some g) := by
  have H0 := hid (src_alloc h (.cells #[.slice none 0 0, .int .i64 0, .int .i64 0, .int .i64 0] 25))
  have hgw := src_lt h
  have hw0 := h.2.1.size
  have HZ := hid (Blk.new w #[.slice none 0 0, .int .i64 0, .int .i64 0, .int .i64 0] 25)
  clear h
  have HPk := l1Pick_lit w0 (w.alloc (.cells #[.slice none 0 0, .int .i64 0, .int .i64 0, .int .i64 0] 25)) g a cap bs at' 5 2 [0, 1, 3, 8, 20] #[.int .i64 0, .int .i64 1, .int .i64 3, .int .i64 8, .int .i64 20] H0.out (by omega) rfl rfl (by omega) (by omega)
  rw [World.size_alloc] at HPk
  have HPK := hid HPk
  clear HPk
  go_enter Try.func22, Try.ntmps22
  go_wp2_with fail
  refine HPK.out.mono ?_
  rintro e w1 ⟨r, rfl, hr, hs1, hg1⟩
  obtain ⟨n, hn, hn2⟩ : ∃ n : Nat, r = n ∧ n ≤ 20 := by
    simp only [List.mem_cons, List.not_mem_nil, or_false] at hr
    exact ⟨r.toNat, by omega, by omega⟩
  subst hn
  have HG1 := hid (grown_in (grown_in hg1))
  have HS1 := hid hs1
  have HZ1 := hid ((HZ.out.alloc _).kept hg1 (by simp; omega))
  clear hr hs1 hg1 H0 HZ HPK
  go_wp2_with fail
  refine (l1Some_calls w0 _ g a cap bs _ n HS1.out (by omega) (by omega)).mono ?_
  rintro e w2 ⟨gl, cl, xs, rfl, ho2, hyl, hyb, hs2, hg2⟩
  subst hyl
  have HG2 := hid (grown_two HG1.out hg2)
  have HS2 := hid hs2
  have HZ2 := hid (HZ1.out.kept hg2 (by simp; omega))
  have hw2 := hg2.size
  have hw1 := HG1.out.size
  clear hs2 hg2 HG1 HS1 HZ1
  go_wp2_with fail
  refine (l3Start_calls _ xs _ ho2.sl hyb (by omega)).mono ?_
  rintro e w3 ⟨v3, rfl, ho3, hb3⟩
  obtain ⟨av, cv, rfl, _⟩ := ho3.sl
  have hst := start_ok xs hyb
  have hw3 := hb3.size
  have HS3 := hid (src_alloc (src_later2 HS2.out hb3) (.cells #[.slice av xs.length cv, .int .i64 3, .int .i64 (pull xs 0 0 3), .int .i64 16777216] 25))
  have HZ3 := hid ((HZ2.out.later hb3).alloc (.cells #[.slice av xs.length cv, .int .i64 3, .int .i64 (pull xs 0 0 3), .int .i64 16777216] 25))
  have HX3 := hid (Blk.new w3 #[.slice av xs.length cv, .int .i64 3, .int .i64 (pull xs 0 0 3), .int .i64 16777216] 25)
  have HO3 := hid ((ho3.mono (base' := w.heap.size) (by omega)).alloc (.cells #[.slice av xs.length cv, .int .i64 3, .int .i64 (pull xs 0 0 3), .int .i64 16777216] 25))
  have HG3 := hid (grown_thenX HG2.out (bmore hb3 (.cells #[.slice av xs.length cv, .int .i64 3, .int .i64 (pull xs 0 0 3), .int .i64 16777216] 25)))
  have hgl := src_lt HS2.out
  have hzl := HZ2.out.lt
  clear HS2 HZ2 HG2 ho2 ho3 hb3
  have hok : okD (pull xs 0 0 3) 16777216 := hst
  have hD : DS w0 w g w3.heap.size a cap bs (at' + 1 + xs.length) (.slice av xs.length cv) xs 3 (pull xs 0 0 3) 16777216 (w3.alloc (.cells #[.slice av xs.length cv, .int .i64 3, .int .i64 (pull xs 0 0 3), .int .i64 16777216] 25)) := ⟨HS3.out, HZ3.out, HX3.out, HO3.out, HG3.out⟩
  have HD := hid hD
  have hXg : w3.heap.size ≠ g := by omega
  have hwg : w.heap.size ≠ g := by omega
  have hwX : w.heap.size < w3.heap.size := by omega
  clear hD HS3 HZ3 HX3 HO3 HG3 hst hgl hzl
  generalize pull xs 0 0 3 = rs at *
  go_wp2_with fail
  refine (l1Next_calls w0 _ g a cap bs _ 6 HD.out.s (by omega) (by omega) (by omega)).mono ?_
  rintro e w4 ⟨q, rfl, q1, q2, hs4, hg4⟩
  have HD4 := hid (HD.out.next hs4 hg4 hXg hwg)
  clear hs4 hg4 HD
  generalize w3.heap.size = X at *
  obtain ⟨j0, rfl⟩ := Int.eq_ofNat_of_zero_le q1
  go_wp2_with fail
  go_loopw [4] (fun i wr => ∃ (j at2 k : Nat) (r n : Int), i = .int .i64 (j : Int) ∧ j ≤ 5 ∧ Hid (at2 + j ≤ at' + 40) ∧ Hid (k + 2 * j ≤ 20) ∧ Hid (okD r n) ∧ Hid (DS w0 w g X a cap bs at2 (.slice av xs.length cv) xs (k : Int) r n wr)) (fun i _ => (intOf i).toNat)
  case atStart => exact ⟨j0, at' + 1 + xs.length + 1, 3, rs, 16777216, rfl, by omega, (by unfold Hid; omega), (by unfold Hid; omega), hok, HD4.out⟩
  case round =>
    obtain ⟨j, at2, k, r, n, rfl, hj, hat2, hk, hokr, HE⟩ := hrel
    have h1 := hat2.out
    have h2 := hk.out
    by_cases hpos : 0 < j
    · have hpos' : (0 : Int) < (j : Int) := by omega
      obtain ⟨j', rfl⟩ : ∃ j', j = j' + 1 := ⟨j - 1, by omega⟩
      go_wp2_with fail
      refine (l1Pick_lit w0 _ g a cap bs _ 4 2 [2, 3, 256, 1000] _ HE.out.s (by omega) rfl rfl (by omega) (by omega)).mono ?_
      rintro e w5 ⟨tot, rfl, ht, hs5, hg5⟩
      have ht1 : 1 ≤ tot ∧ tot ≤ 1024 := by
        simp only [List.mem_cons, List.not_mem_nil, or_false] at ht
        omega
      obtain ⟨t1, t2⟩ := ht1
      have HE5 := hid ((HE.out.alloc _).next hs5 hg5 hXg hwg)
      clear hs5 hg5 HE ht
      obtain ⟨x0, x1, x2, x3, _⟩ := HE5.out.x.four
      obtain ⟨⟨k1, k2⟩, k3, k4⟩ := hokr.out
      go_wp2_with fail
      refine (l3Value_calls X r n tot _ x2 x3 k1 k2 t1 t2 k3 (by omega)).mono ?_
      rintro e w6 ⟨rfl, m6, rfl⟩
      have HE6 := hid (HE5.out.drew m6)
      obtain ⟨⟨v1, v2⟩, v3, v4, v5⟩ := step_ok' xs hyb k r n tot hokr.out t1 t2
      have HV5 := hid v5
      clear HE5 x0 x1 x2 x3 v5
      go_wp2_with fail
      refine (l3Take_calls X _ xs k r n (nV r n tot) 1 tot _ _ HE6.out.x (fun w' hg => (ow_apart HE6.out.o HE6.out.x (by decide) hg).sl) hyb k1 k2 t1 t2 (by omega) v1 v2 v3 v4 (by omega)).mono ?_
      rintro e w7 ⟨⟨_, rfl⟩, hB7, hG7⟩
      have HE7 := hid (HE6.out.turn hB7 hG7 hXg hwX hw0)
      have hsh := shI_le (narI n (nV r n tot) 1 tot)
      clear hB7 hG7 HE6
      go_wp2
      go_roundw
      case rel => exact ⟨j', at2 + 1, _, _, _, by go_num, by omega, (by unfold Hid; omega), (by unfold Hid; omega), HV5.out, HE7.out⟩
      case measure => simp [intOf]
    · have hj0 : j = 0 := by omega
      subst hj0
      obtain ⟨z0, z1, z2, z3, zf0, zf1, zf2, zf3⟩ := HE.out.z.four
      clear z0 z1 z2 z3 zf0 zf1 zf2 zf3
      generalize hkk : (k : Int) = kk at *
      go_wp2_with fail
      refine (l1Next_calls w0 _ g a cap bs _ 25 HE.out.s (by omega) (by omega) (by omega)).mono ?_
      rintro e w6 ⟨q, rfl, q3, q4, hs6, hg6⟩
      have HE2 := hid (HE.out.next hs6 hg6 hXg hwg)
      clear hs6 hg6 HE
      have HE := HE2
      clear HE2
      obtain ⟨⟨k1, k2⟩, k3, k4⟩ := hokr.out
      by_cases hq0 : q = 0
      · subst hq0
        obtain ⟨x0, x1, x2, x3, xf0, xf1, xf2, xf3⟩ := HE.out.x.four
        go_wp2_with fail
        refine (l1Pick_lit w0 _ g a cap bs _ 5 2 [-1, 10000, 10001, 9996, 9997] _ HE.out.s (by omega) rfl rfl (by omega) (by omega)).mono ?_
        rintro e w7 ⟨p, rfl, _, hs7, hg7⟩
        have HE7 := hid ((HE.out.alloc _).next hs7 hg7 hXg hwg)
        clear hs7 hg7 HE x0 x1 x2 x3 xf0 xf1 xf2 xf3
        obtain ⟨z0, z1, z2, z3, zf0, zf1, zf2, zf3⟩ := HE7.out.z.four
        obtain ⟨x0, x1, x2, x3, xf0, xf1, xf2, xf3⟩ := HE7.out.x.four
        have HE8 := hid (HE7.out.turn (HE7.out.x.set 1 (.int .i64 p)) (grown_set w7 X 1 (.int .i64 p)) hXg hwX hw0)
        go_wp2
        exact bodyPost_ret (v := .agg #[.slice av xs.length cv, .int .i64 p, .int .i64 r, .int .i64 n]) (by simp [results, Try.results22, go_sem, z0, z1, z2, z3]) rfl ⟨_, xs, _, _, _, _, rfl, ow_apart HE8.out.o HE8.out.z (by decide) (grown_set4 _ _ _ _ _ _), hyb, (by omega), (by omega), src_kept HE8.out.s (grown_set4 _ w.heap.size _ _ _ _) (fun j e => by cases e; exact ⟨by omega, hw0⟩), grown_new HE8.out.gr (grown_set4 _ w.heap.size _ _ _ _) (Nat.le_refl _)⟩
      · by_cases hq1 : q = 1
        · subst hq1
          obtain ⟨x0, x1, x2, x3, xf0, xf1, xf2, xf3⟩ := HE.out.x.four
          go_wp2_with fail
          refine (l1Pick_lit w0 _ g a cap bs _ 4 2 [65535, 65536, 16777216, 16777217] _ HE.out.s (by omega) rfl rfl (by omega) (by omega)).mono ?_
          rintro e w7 ⟨p, rfl, _, hs7, hg7⟩
          have HE7 := hid ((HE.out.alloc _).next hs7 hg7 hXg hwg)
          clear hs7 hg7 HE x0 x1 x2 x3 xf0 xf1 xf2 xf3
          obtain ⟨z0, z1, z2, z3, zf0, zf1, zf2, zf3⟩ := HE7.out.z.four
          obtain ⟨x0, x1, x2, x3, xf0, xf1, xf2, xf3⟩ := HE7.out.x.four
          have HE8 := hid (HE7.out.turn (HE7.out.x.set 3 (.int .i64 p)) (grown_set w7 X 3 (.int .i64 p)) hXg hwX hw0)
          go_wp2
          exact bodyPost_ret (v := .agg #[.slice av xs.length cv, .int .i64 kk, .int .i64 r, .int .i64 p]) (by simp [results, Try.results22, go_sem, z0, z1, z2, z3]) rfl ⟨_, xs, _, _, _, _, rfl, ow_apart HE8.out.o HE8.out.z (by decide) (grown_set4 _ _ _ _ _ _), hyb, (by omega), (by omega), src_kept HE8.out.s (grown_set4 _ w.heap.size _ _ _ _) (fun j e => by cases e; exact ⟨by omega, hw0⟩), grown_new HE8.out.gr (grown_set4 _ w.heap.size _ _ _ _) (Nat.le_refl _)⟩
        · by_cases hq2 : q = 2
          · subst hq2
            obtain ⟨x0, x1, x2, x3, xf0, xf1, xf2, xf3⟩ := HE.out.x.four
            go_wp2_with fail
            refine (l1Pick_lit w0 _ g a cap bs _ 4 2 [-1, 0, n - 1, n] _ HE.out.s (by omega) rfl rfl (by omega) (by omega)).mono ?_
            rintro e w7 ⟨p, rfl, _, hs7, hg7⟩
            have HE7 := hid ((HE.out.alloc _).next hs7 hg7 hXg hwg)
            clear hs7 hg7 HE x0 x1 x2 x3 xf0 xf1 xf2 xf3
            obtain ⟨z0, z1, z2, z3, zf0, zf1, zf2, zf3⟩ := HE7.out.z.four
            obtain ⟨x0, x1, x2, x3, xf0, xf1, xf2, xf3⟩ := HE7.out.x.four
            have HE8 := hid (HE7.out.turn (HE7.out.x.set 2 (.int .i64 p)) (grown_set w7 X 2 (.int .i64 p)) hXg hwX hw0)
            go_wp2
            exact bodyPost_ret (v := .agg #[.slice av xs.length cv, .int .i64 kk, .int .i64 p, .int .i64 n]) (by simp [results, Try.results22, go_sem, z0, z1, z2, z3]) rfl ⟨_, xs, _, _, _, _, rfl, ow_apart HE8.out.o HE8.out.z (by decide) (grown_set4 _ _ _ _ _ _), hyb, (by omega), (by omega), src_kept HE8.out.s (grown_set4 _ w.heap.size _ _ _ _) (fun j e => by cases e; exact ⟨by omega, hw0⟩), grown_new HE8.out.gr (grown_set4 _ w.heap.size _ _ _ _) (Nat.le_refl _)⟩
          · by_cases hq3 : q = 3
            · subst hq3
              go_wp2_with fail
              refine (l1Pick_lit w0 _ g a cap bs _ 2 2 [600, 601] _ HE.out.s (by omega) rfl rfl (by omega) (by omega)).mono ?_
              rintro e w7 ⟨p, rfl, hp, hs7, hg7⟩
              obtain ⟨m, hm, hm2⟩ : ∃ m : Nat, p = m ∧ m ≤ 601 := by
                simp only [List.mem_cons, List.not_mem_nil, or_false] at hp
                exact ⟨p.toNat, by omega, by omega⟩
              subst hm
              have HE7 := hid ((HE.out.alloc _).next hs7 hg7 hXg hwg)
              clear hs7 hg7 HE hp
              go_wp2_with fail
              refine (l1Some_calls w0 _ g a cap bs _ m HE7.out.s (by omega) (by omega)).mono ?_
              rintro e w8 ⟨gy, cy, ys, rfl, ho8, hyl, hyb8, hs8, hg8⟩
              subst hyl
              have hz7 := HE7.out.gr.size
              have HE8 := hid (HE7.out.next hs8 hg8 hXg hwg)
              have HO8 := hid (ho8.mono (base' := w.heap.size) hz7)
              clear hs8 hg8 HE7 ho8
              obtain ⟨z0, z1, z2, z3, zf0, zf1, zf2, zf3⟩ := HE8.out.z.four
              obtain ⟨x0, x1, x2, x3, xf0, xf1, xf2, xf3⟩ := HE8.out.x.four
              have hg9 := grown_set w8 X 0 (.slice (some ⟨gy, 0, none⟩) ys.length cy)
              have HO9 := hid (ow_apart HO8.out HE8.out.x (by decide) hg9)
              have HS9 := hid (src_kept HE8.out.s hg9 (fun j e => by cases e; exact ⟨hXg, by omega⟩))
              have HZ9 := hid (HE8.out.z.kept hg9 (by simp; omega))
              have HG9 := hid (grown_new HE8.out.gr hg9 (by omega))
              clear hg9 HO8
              go_wp2
              exact bodyPost_ret (v := .agg #[.slice (some ⟨gy, 0, none⟩) ys.length cy, .int .i64 kk, .int .i64 r, .int .i64 n]) (by simp [results, Try.results22, go_sem, z0, z1, z2, z3]) rfl ⟨_, ys, _, _, _, _, rfl, ow_apart HO9.out HZ9.out (by decide) (grown_set4 _ _ _ _ _ _), hyb8, hm2, (by omega), src_kept HS9.out (grown_set4 _ w.heap.size _ _ _ _) (fun j e => by cases e; exact ⟨by omega, hw0⟩), grown_new HG9.out (grown_set4 _ w.heap.size _ _ _ _) (Nat.le_refl _)⟩
            · have b0 : (q == 0) = false := by simpa using hq0
              have b1 : (q == 1) = false := by simpa using hq1
              have b2 : (q == 2) = false := by simpa using hq2
              have b3 : (q == 3) = false := by simpa using hq3
              obtain ⟨z0, z1, z2, z3, zf0, zf1, zf2, zf3⟩ := HE.out.z.four
              obtain ⟨x0, x1, x2, x3, xf0, xf1, xf2, xf3⟩ := HE.out.x.four
              go_wp2
              exact bodyPost_ret (v := .agg #[.slice av xs.length cv, .int .i64 kk, .int .i64 r, .int .i64 n]) (by simp [results, Try.results22, go_sem, z0, z1, z2, z3]) rfl ⟨_, xs, _, _, _, _, rfl, ow_apart HE.out.o HE.out.z (by decide) (grown_set4 _ _ _ _ _ _), hyb, (by omega), (by omega), src_kept HE.out.s (grown_set4 _ w.heap.size _ _ _ _) (fun j e => by cases e; exact ⟨by omega, hw0⟩), grown_new HE.out.gr (grown_set4 _ w.heap.size _ _ _ _) (Nat.le_refl _)⟩
end Go.Proofs.Ytdmaeipiikknnaa.DrwD
