/- The draws of lists of slots. -/
import Derived.Test.YtdmaeipiikknnaaDoorDrwS
import Derived.Test.YtdmaeipiikknnaaDoorExL
import Derived.Maps.AppendAt
import Derived.Deep.CutBlock
import Derived.Deep.DeepCutAuto
namespace Go.Proofs.YtdmaeipiikknnaaDoor.DrwL
open Go.ChangeShapes Go.WideShapes Go.ChangeAt Go.RowKit Go.Proofs.YtdmaeipiikknnaaDoor.Num Go.Proofs.YtdmaeipiikknnaaDoor.Sli Go.Proofs.YtdmaeipiikknnaaDoor.App Go.Proofs.YtdmaeipiikknnaaDoor.Byt Go.Proofs.YtdmaeipiikknnaaDoor.Blk Go.Proofs.YtdmaeipiikknnaaDoor.Src Go.Proofs.YtdmaeipiikknnaaDoor.DrwS Go.Proofs.YtdmaeipiikknnaaDoor.SlS Go.Proofs.YtdmaeipiikknnaaDoor.ExL Go.Proofs.YtdmaeipiikknnaaDoor.CrcM

theorem OwS.kept {base : Nat} {w w' : World} {v : Value} {ls : List Sl3} {row : Option Nat} (h : OwS base w v ls) (hg : w.grownBy w' row) (hr : ∀ j, row = some j → j < base) : OwS base w' v ls := by
  have h' : w.ownsRow base 39 3 v ls.length (flat ls) := h
  refine h'.kept hg ?_
  cases hv : v.ownBlock with
  | none => exact Or.inl rfl
  | some j =>
    right
    intro e
    have := (h'.lt j hv).1
    have := hr j e.symm
    omega
theorem OwS.mono {base base' : Nat} {w : World} {v : Value} {ls : List Sl3} (h : OwS base w v ls) (hb : base' ≤ base) : OwS base' w v ls := by
  refine ⟨h.1, ?_⟩
  rcases h.2 with h0 | ⟨g, cap, cur, h1, h2, h3⟩
  · exact .inl h0
  · exact .inr ⟨g, cap, cur, h1, Nat.le_trans hb h2, h3⟩
theorem owS_new (base : Nat) (w : World) (hb : base ≤ w.heap.size) : OwS base (w.alloc (.cells #[] 39)) (.slice (some ⟨w.heap.size, 0, none⟩) 0 0) [] :=
  ⟨rfl, .inr ⟨w.heap.size, 0, #[], rfl, hb, World.alloc_heap_new w _, Nat.le_refl _, Nat.zero_le _, rfl, rfl⟩⟩
/-- The source, and the list that was drawn so far. -/
structure DL (w : World) (g gl cl : Nat) (a : Option Addr) (cap : Nat) (bs : List Int) (at2 : Nat) (ls : List Sl3) (W : World) : Prop where
  s : Src w W g a cap bs at2
  o : OwS (g + 1) W (.slice (some ⟨gl, 0, none⟩) ls.length cl) ls
theorem DL.next {w W W' : World} {g gl cl : Nat} {a : Option Addr} {cap : Nat} {bs : List Int} {at2 at3 : Nat} {ls : List Sl3} (h : DL w g gl cl a cap bs at2 ls W) (hs : Src w W' g a cap bs at3) (hg : W.grownBy W' (some g)) : DL w g gl cl a cap bs at3 ls W' :=
  ⟨hs, OwS.kept h.o hg (fun j e => by cases e; omega)⟩
theorem DL.alloc {w W : World} {g gl cl : Nat} {a : Option Addr} {cap : Nat} {bs : List Int} {at2 : Nat} {ls : List Sl3} (h : DL w g gl cl a cap bs at2 ls W) (o : Obj) : DL w g gl cl a cap bs at2 ls (W.alloc o) :=
  ⟨src_alloc h.s o, OwS.later h.o (bmore (Below.refl _ _) o)⟩
set_option maxHeartbeats 2000000 in
theorem drawEnc_calls (a : Option Addr) (cap : Nat) (bs : List Int) (w : World) (hsl : Sl .u8 w (.slice a bs.length cap) bs) (hbd : BytesL bs) (hlen : bs.length ≤ 1048576) :
    Calls Tryd.prog 7 #[.slice a bs.length cap] w fun e w' => ∃ (g c : Nat) (ls : List Sl3), e = .returned (.slice (some ⟨g, 0, none⟩) ls.length c) ∧ ls.length ≤ 401 ∧ OwS w.heap.size w' (.slice (some ⟨g, 0, none⟩) ls.length c) ls ∧ Below w.heap.size w w' := by
  obtain ⟨i0, hi, hz0, hz1, hz2⟩ := info_parts infoS
  have HS := hid (l1Source_calls a cap bs w w (Below.refl _ _) hsl hbd hlen)
  clear hsl hbd
  go_enter Tryd.func7, Tryd.ntmps7
  go_wp2_with fail
  refine HS.out.mono ?_
  rintro e w1 ⟨g, rfl, hs1, hg1⟩
  have HD : Hid (DL w g w1.heap.size 0 a cap bs 0 [] (w1.alloc (.cells #[] 39))) := ⟨src_alloc hs1 _, owS_new _ _ (src_lt hs1)⟩
  clear hs1 hg1 HS
  have HPk := l1Pick_lit w (w1.alloc (.cells #[] 39)) g a cap bs 0 6 2 [0, 1, 3, 8, 20, 40] #[.int .i64 0, .int .i64 1, .int .i64 3, .int .i64 8, .int .i64 20, .int .i64 40] HD.out.s (by omega) rfl rfl (by omega) (by omega)
  rw [World.size_alloc] at HPk
  have HP := hid HPk
  clear HPk
  go_wp2_with fail
  refine HP.out.mono ?_
  rintro e w2 ⟨r, rfl, hr, hs2, hg2⟩
  have hr' : 0 ≤ r ∧ r ≤ 401 := by
    simp only [List.mem_cons, List.mem_nil_iff, or_false] at hr
    omega
  have HD2 := hid ((HD.out.alloc _).next hs2 hg2)
  clear hs2 hg2 HD hr HP
  generalize w1.heap.size = gl at *
  go_wp2_with fail
  refine (l1Chance_calls w _ g a cap bs _ 30 HD2.out.s (by omega) (by omega) (by omega)).mono ?_
  rintro e w3 ⟨c, rfl, hs3, hg3⟩
  have HD3 := hid (HD2.out.next hs3 hg3)
  clear hs3 hg3 HD2
  go_upto_if 13 with fail
  go_cut [5] from 13 to 16 (fun n wc => ∃ (r : Int) (at3 : Nat), n = .int .i64 r ∧ at3 ≤ 10 ∧ (0 ≤ r ∧ r ≤ 401) ∧ Hid (DL w g gl 0 a cap bs at3 [] wc))
  case first =>
    cases c
    · go_wp2_with fail
      go_meet
      case rel => exact ⟨r, _, rfl, by omega, hr', HD3.out⟩
    · go_wp2_with fail
      refine (l1Pick_lit w _ g a cap bs _ 2 2 [400, 401] _ HD3.out.s (by omega) rfl rfl (by omega) (by omega)).mono ?_
      rintro e w4 ⟨r2, rfl, hr2, hs4, hg4⟩
      have hr2' : 0 ≤ r2 ∧ r2 ≤ 401 := by
        simp only [List.mem_cons, List.mem_nil_iff, or_false] at hr2
        omega
      have HD4 := hid ((HD3.out.alloc _).next hs4 hg4)
      clear hs4 hg4 HD3 hr2
      go_wp2_with fail
      go_meet
      case rel => exact ⟨r2, _, rfl, by omega, hr2', HD4.out⟩
  case rest =>
    obtain ⟨r, at3, rfl, hat3, hrr, hD⟩ := hcut
    obtain ⟨n, rfl⟩ : ∃ n : Nat, r = n := ⟨r.toNat, by omega⟩
    clear HD3
    go_wp2_with fail
    go_loopw [4, 5] (fun o i wr => ∃ (k gl cl at4 : Nat) (ls : List Sl3), o = .slice (some ⟨gl, 0, none⟩) ls.length cl ∧ i = .int .i64 (k : Int) ∧ k + ls.length ≤ 401 ∧ at4 ≤ 10 + 8 * ls.length ∧ Hid (DL w g gl cl a cap bs at4 ls wr)) (fun _ i _ => (intOf i).toNat)
    case atStart => exact ⟨n, gl, 0, at3, [], rfl, rfl, by simp; omega, by simp; omega, hD.out⟩
    case round =>
      clear hD
      obtain ⟨k, gl2, cl, at4, ls, rfl, rfl, hk, hat, hD⟩ := hrel
      by_cases hpos : 0 < k
      · obtain ⟨k', rfl⟩ : ∃ k', k = k' + 1 := ⟨k - 1, by omega⟩
        have e0 : ((k' + 1 : Nat) : Int) - 1 = (k' : Int) := by omega
        go_wp2_with fail
        refine (l3Bent_calls w _ g a cap bs at4 hD.out.s (by omega)).mono ?_
        rintro e w5 ⟨lo, sz, tot, at5, rfl, hat5, hs5, hg5⟩
        have HD5 := hid (hD.out.next hs5 hg5)
        clear hs5 hg5 hD
        have hgz := src_lt HD5.out.s
        go_wp2_with (at_builtin; refine wpList_append_own_at _ rfl _ _ 24 rfl (g + 1) 39 i0 (.agg #[.int .i64 0, .int .i64 0, .int .i64 0]) 3 24 Tryd.underlying24 hi hz0 hz1 hz2 rfl (by decide) (.slice (some ⟨gl2, 0, none⟩) ls.length cl) ls.length (flat ls) rfl (HD5.out.alloc _).o ⟨w5.heap.size, 0, none⟩ 1 1 [.int .i64 lo, .int .i64 sz, .int .i64 tot] rfl rfl ?c1 ?c2 ?c3 ?c4 ?c5 ?_)
        case c1 =>
          intro j u hj
          have hb := Blk.new w5 #[.int .i64 lo, .int .i64 sz, .int .i64 tot] 39
          have := hb.cell j
          rw [Addr.add_lit, Nat.zero_add, this, ← hj]
          simp
        case c2 => simp [Value.oneCell']
        case c3 => rw [show maxLen = 9223372036854775807 by decide]; omega
        case c4 => omega
        case c5 => simp; omega
        intro v6 w6 ho6 hg6 _ _
        obtain ⟨g6, c6, rfl⟩ := ownsRow_succ ho6
        have HD6 : Hid (DL w g g6 c6 a cap bs at5 (ls ++ [(lo, sz, tot)]) w6) := by
          refine ⟨src_kept (src_alloc HD5.out.s _) hg6 (fun j e => ?_), ?_⟩
          · obtain rfl : gl2 = j := by simpa [Value.ownBlock] using e
            have := OwS.block HD5.out.o
            have h3 := HD5.out.s.1
            omega
          · show World.ownsRow _ _ _ _ _ (ls ++ [(lo, sz, tot)]).length (flat (ls ++ [(lo, sz, tot)]))
            rw [List.length_append, flat_append]
            exact ho6
        have e1 : Hid (Value.slice (some ⟨g6, 0, none⟩) (ls.length + 1) c6 = .slice (some ⟨g6, 0, none⟩) (ls ++ [(lo, sz, tot)]).length c6) := by show _ = _; rw [List.length_append]; rfl
        clear ho6 hg6 HD5
        go_wp2
        go_roundw
        case rel => exact ⟨k', g6, c6, at5, ls ++ [(lo, sz, tot)], e1.out, by go_num, by simp; omega, by simp; omega, HD6.out⟩
        case measure => simp [intOf]
      · obtain rfl : k = 0 := by omega
        go_wp2
        go_ret
        have h3 := hD.out.s.1
        exact ⟨gl2, cl, ls, rfl, by omega, OwS.mono hD.out.o (by omega), hD.out.s.2.1⟩
end Go.Proofs.YtdmaeipiikknnaaDoor.DrwL
