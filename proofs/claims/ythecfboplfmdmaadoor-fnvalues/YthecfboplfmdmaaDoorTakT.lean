/- What TakeSlot and StartDecode answer, and the model's own. -/
import Derived.Test.YthecfboplfmdmaaDoorTakS
namespace Go.Proofs.YthecfboplfmdmaaDoor.TakT
open Go.ChangeShapes Go.WideShapes Go.ChangeAt Go.RowKit Go.Proofs.YthecfboplfmdmaaDoor.Num Go.Proofs.YthecfboplfmdmaaDoor.Sli Go.Proofs.YthecfboplfmdmaaDoor.App Go.Proofs.YthecfboplfmdmaaDoor.Byt Go.Proofs.YthecfboplfmdmaaDoor.CrcM Go.Proofs.YthecfboplfmdmaaDoor.Str Go.Proofs.YthecfboplfmdmaaDoor.Div Go.Proofs.YthecfboplfmdmaaDoor.Dec Go.Proofs.YthecfboplfmdmaaDoor.Blk Go.Proofs.YthecfboplfmdmaaDoor.Nxt Go.Proofs.YthecfboplfmdmaaDoor.Byte Go.Proofs.YthecfboplfmdmaaDoor.TakS

/-- What a decoder holds. -/
structure Dv where
  xs : List Int
  at' : Int
  rst : Int
  rng : Int
def dv0 : Dv := ⟨[], 0, 0, 0⟩
/-- The code of TakeSlot. -/
def tC (d : Dv) (lo sz tot : Int) : Int :=
  if dF d.xs.length d.at' d.rst d.rng = 0 then
    if sF lo sz tot = 0 then
      if 9996 < d.at' then 7 else if inB lo (lo + sz - 1) (nV d.rst d.rng tot) then 0 else 8
    else sF lo sz tot
  else dF d.xs.length d.at' d.rst d.rng
/-- The decoder behind a slot that fits. -/
def tN (d : Dv) (lo sz tot : Int) : Dv :=
  ⟨d.xs, ((d.at'.toNat + shI (narI d.rng lo sz tot) : Nat) : Int), pull d.xs d.at'.toNat (d.rst - d.rng / tot * lo) (shI (narI d.rng lo sz tot)), up (narI d.rng lo sz tot) (shI (narI d.rng lo sz tot))⟩
def tD (d : Dv) (lo sz tot : Int) : Dv := if tC d lo sz tot = 0 then tN d lo sz tot else dv0
def stC (xs : List Int) : Int := if 600 < xs.length then 2 else 0
def stD (xs : List Int) : Dv := if 600 < xs.length then dv0 else ⟨xs, 3, pull xs 0 0 3, 16777216⟩

theorem tC_dec {d : Dv} {lo sz tot : Int} (h : ¬ dF d.xs.length d.at' d.rst d.rng = 0) : tC d lo sz tot = dF d.xs.length d.at' d.rst d.rng ∧ tD d lo sz tot = dv0 := by
  have e : tC d lo sz tot = dF d.xs.length d.at' d.rst d.rng := if_neg h
  exact ⟨e, if_neg (by rw [e]; exact h)⟩
theorem tC_slot {d : Dv} {lo sz tot : Int} (h : dF d.xs.length d.at' d.rst d.rng = 0) (h2 : ¬ sF lo sz tot = 0) : tC d lo sz tot = sF lo sz tot ∧ tD d lo sz tot = dv0 := by
  have e : tC d lo sz tot = sF lo sz tot := by unfold tC; rw [if_pos h, if_neg h2]
  exact ⟨e, if_neg (by rw [e]; exact h2)⟩
theorem tC_full {d : Dv} {lo sz tot : Int} (h : dF d.xs.length d.at' d.rst d.rng = 0) (h2 : sF lo sz tot = 0) (h3 : 9996 < d.at') : tC d lo sz tot = 7 ∧ tD d lo sz tot = dv0 := by
  have e : tC d lo sz tot = 7 := by unfold tC; rw [if_pos h, if_pos h2, if_pos h3]
  exact ⟨e, if_neg (by rw [e]; decide)⟩
theorem tC_in {d : Dv} {lo sz tot : Int} {b : Bool} (h : dF d.xs.length d.at' d.rst d.rng = 0) (h2 : sF lo sz tot = 0) (h3 : ¬ 9996 < d.at') (hb : inB lo (lo + sz - 1) (nV d.rst d.rng tot) = b) : tC d lo sz tot = (if b then 0 else 8) ∧ tD d lo sz tot = (if b then tN d lo sz tot else dv0) := by
  have e : tC d lo sz tot = (if b then 0 else 8) := by unfold tC; rw [if_pos h, if_pos h2, if_neg h3, hb]
  refine ⟨e, ?_⟩
  unfold tD
  rw [e]
  cases b <;> rfl
/-- What a call over decoders answers: a code and a decoder in new memory. -/
def DR (w : World) (c : Int) (d : Dv) (e : Ending) (w' : World) : Prop :=
  ∃ v', e = .returned (.agg #[.int .i64 c, v', .int .i64 d.at', .int .i64 d.rst, .int .i64 d.rng]) ∧ OwB w.heap.size w' v' d.xs ∧ Below w.heap.size w w'
theorem nil_ow (base : Nat) (w : World) : OwB base w (.slice none 0 0) [] := World.ownsRow_nil _ _ _ _
/-- An answer of five cells is stored. -/
theorem below_set5 {R : Nat} {a w : World} (h : Below R a w) {b : Nat} (hb : R ≤ b) (x0 x1 x2 x3 x4 : Value) :
    Below R a (((((w.setCell ⟨b, 0, none⟩ x0).setCell ⟨b, 1, none⟩ x1).setCell ⟨b, 2, none⟩ x2).setCell ⟨b, 3, none⟩ x3).setCell ⟨b, 4, none⟩ x4) :=
  below_cell (below_cell (below_cell (below_cell (below_cell h hb _ _) hb _ _) hb _ _) hb _ _) hb _ _
theorem grown_set5 (w : World) (b : Nat) (x0 x1 x2 x3 x4 : Value) :
    w.grownBy (((((w.setCell ⟨b, 0, none⟩ x0).setCell ⟨b, 1, none⟩ x1).setCell ⟨b, 2, none⟩ x2).setCell ⟨b, 3, none⟩ x3).setCell ⟨b, 4, none⟩ x4) (some b) :=
  grown_same (grown_same (grown_same (grown_same (grown_set w b 0 _) (grown_set _ b 1 _)) (grown_set _ b 2 _)) (grown_set _ b 3 _)) (grown_set _ b 4 _)

theorem drewB {n : Nat} {a w : World} (h : Below n a w) : Below n a w.drew := below_drewN h 1
theorem undrewB {w w' : World} (h : Below w.drew.heap.size w.drew w') : Below w.heap.size w w' := ⟨h.os, h.tape, h.output, h.size, h.block⟩
theorem Blk.other4 {w : World} {b : Nat} {vs : Array Value} {t : TypeId} (h : Blk w b vs t) {b' : Nat} (hne : b' ≠ b) (x0 x1 x2 x3 : Value) :
    Blk ((((w.setCell ⟨b', 0, none⟩ x0).setCell ⟨b', 1, none⟩ x1).setCell ⟨b', 2, none⟩ x2).setCell ⟨b', 3, none⟩ x3) b vs t := (((h.other hne 0 x0).other hne 1 x1).other hne 2 x2).other hne 3 x3
theorem Blk.set4 {w : World} {b : Nat} {v0 v1 v2 v3 : Value} {t : TypeId} (h : Blk w b #[v0, v1, v2, v3] t) (x0 x1 x2 x3 : Value) :
    Blk ((((w.setCell ⟨b, 0, none⟩ x0).setCell ⟨b, 1, none⟩ x1).setCell ⟨b, 2, none⟩ x2).setCell ⟨b, 3, none⟩ x3) b #[x0, x1, x2, x3] t := (((h.set 0 x0).set 1 x1).set 2 x2).set 3 x3
theorem grown_set4 (w : World) (b : Nat) (x0 x1 x2 x3 : Value) :
    w.grownBy ((((w.setCell ⟨b, 0, none⟩ x0).setCell ⟨b, 1, none⟩ x1).setCell ⟨b, 2, none⟩ x2).setCell ⟨b, 3, none⟩ x3) (some b) :=
  grown_same (grown_same (grown_same (grown_set w b 0 _) (grown_set _ b 1 _)) (grown_set _ b 2 _)) (grown_set _ b 3 _)

theorem l3Start_calls (v : Value) (xs : List Int) (w : World) (h : Sl .u8 w v xs) (hx : BytesL xs) (hlen : xs.length ≤ 1048576) :
    Calls Tryd.prog 59 #[v] w fun e w' => ∃ v', e = .returned (.agg #[v', .int .i64 3, .int .i64 (pull xs 0 0 3), .int .i64 16777216]) ∧ OwB w.heap.size w' v' xs ∧ Below w.heap.size w w' := by
  have H := hid (h.later (bmore (Below.refl _ w) (.cells #[.slice none 0 0, .int .i64 0, .int .i64 0, .int .i64 0] 88)))
  have HB := hid (bmore (Below.refl _ w) (.cells #[.slice none 0 0, .int .i64 0, .int .i64 0, .int .i64 0] 88))
  have hN := hid (Blk.new w #[.slice none 0 0, .int .i64 0, .int .i64 0, .int .i64 0] 88)
  obtain ⟨a, cap, rfl, _⟩ := h
  have g0 := hid (CrcM.getD_bd hx 0)
  have g1 := hid (CrcM.getD_bd hx 1)
  have g2 := hid (CrcM.getD_bd hx 2)
  have e0 := l3Byte_calls _ xs 0 _ H.out hx
  have e1 := l3Byte_calls _ xs 1 _ H.out hx
  have e2 := l3Byte_calls _ xs 2 _ H.out hx
  have HP : Hid (xs.getD 0 0 * 65536 + xs.getD 1 0 * 256 + xs.getD 2 0 = pull xs 0 0 3) := by unfold Hid; simp only [pull, Nat.zero_add]; omega
  generalize xs.getD 0 0 = x0 at *
  generalize xs.getD 1 0 = x1 at *
  generalize xs.getD 2 0 = x2 at *
  obtain ⟨b01, b02⟩ := g0.out
  obtain ⟨b11, b12⟩ := g1.out
  obtain ⟨b21, b22⟩ := g2.out
  have E0 := hid e0
  have E1 := hid e1
  have E2 := hid e2
  clear e0 e1 e2 g0 g1 g2
  go_enter Tryd.func59, Tryd.ntmps59
  go_wp2_with fail
  refine E0.out.mono ?_
  rintro e w1 ⟨rfl, rfl⟩
  go_wp2_with fail
  refine E1.out.mono ?_
  rintro e w1 ⟨rfl, rfl⟩
  go_wp2_with fail
  refine E2.out.mono ?_
  rintro e w1 ⟨rfl, rfl⟩
  go_wp2_with fail
  refine (l1Copy_calls _ xs _ H.out hlen).mono ?_
  rintro e w2 ⟨g', cap', rfl, ho, hb⟩
  obtain ⟨c0, c1, c2, c3, f0, f1, f2, f3⟩ := (hN.out.later hb).four
  have HO := hid ho
  have HB2 := hid (bthen HB.out hb)
  clear ho hb
  go_wp2
  refine bodyPost_ret (v := .agg #[.slice (some ⟨g', 0, none⟩) xs.length cap', .int .i64 3, .int .i64 (x0 * 65536 + x1 * 256 + x2), .int .i64 16777216]) (by simp [results, Tryd.results59, go_sem, c0, c1, c2, c3]) rfl ⟨.slice (some ⟨g', 0, none⟩) xs.length cap', by rw [HP.out], ?_, ?_⟩
  · refine (HO.out.kept (row := some w.heap.size) ?_ (fun j e => by cases e; simp)).mono (by simp)
    exact grown_same (grown_same (grown_same (grown_set _ _ 0 _) (grown_set _ _ 1 _)) (grown_set _ _ 2 _)) (grown_set _ _ 3 _)
  · exact below_cell (below_cell (below_cell (below_cell HB2.out (Nat.le_refl _) _ _) (Nat.le_refl _) _ _) (Nat.le_refl _) _ _) (Nat.le_refl _) _ _
end Go.Proofs.YthecfboplfmdmaaDoor.TakT
