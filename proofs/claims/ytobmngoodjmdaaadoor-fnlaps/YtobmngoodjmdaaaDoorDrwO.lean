/- Lists of steps that are drawn. -/
import Derived.Test.YtobmngoodjmdaaaDoorDrwN
import Derived.Maps.AppendAt
namespace Go.Proofs.YtobmngoodjmdaaaDoor.DrwO
open Go.ChangeShapes Go.WideShapes Go.ChangeAt Go.RowKit Go.Proofs.YtobmngoodjmdaaaDoor.Num Go.Proofs.YtobmngoodjmdaaaDoor.Sli Go.Proofs.YtobmngoodjmdaaaDoor.App Go.Proofs.YtobmngoodjmdaaaDoor.Samp Go.Proofs.YtobmngoodjmdaaaDoor.Blk Go.Proofs.YtobmngoodjmdaaaDoor.LapM Go.Proofs.YtobmngoodjmdaaaDoor.IntL Go.Proofs.YtobmngoodjmdaaaDoor.IntA Go.Proofs.YtobmngoodjmdaaaDoor.LapS Go.Proofs.YtobmngoodjmdaaaDoor.Src Go.Proofs.YtobmngoodjmdaaaDoor.Lists Go.Proofs.YtobmngoodjmdaaaDoor.Samples Go.Proofs.YtobmngoodjmdaaaDoor.Draws Go.Proofs.YtobmngoodjmdaaaDoor.DrwF Go.Proofs.YtobmngoodjmdaaaDoor.DrwK Go.Proofs.YtobmngoodjmdaaaDoor.DrwM Go.Proofs.YtobmngoodjmdaaaDoor.DrwN

/-- A step: its frame's slice, its fates' numbers, its frame's numbers. -/
abbrev St := Value × List Int × List Int
def fl (sts : List St) : List Value := sts.flatMap fun s => s.1 :: s.2.1.map (Value.int .i64)
theorem fl_append (a : List St) (s : St) : fl (a ++ [s]) = fl a ++ (s.1 :: s.2.1.map (Value.int .i64)) := by simp [fl]
/-- The frames lie in blocks of their own. -/
def FrO (base n : Nat) (W : World) (sts : List St) : Prop := ∀ s ∈ sts, (∃ gl cl, s.1 = .slice (some ⟨gl, 0, none⟩) n cl) ∧ OwI base W s.1 s.2.2 ∧ s.2.2.length = n ∧ (∀ y ∈ s.2.2, -32768 ≤ y ∧ y ≤ 32767) ∧ s.2.1.length = 12
theorem FrO.kept {base n : Nat} {W W' : World} {sts : List St} {row : Option Nat} (h : FrO base n W sts) (hg : W.grownBy W' row) (hr : ∀ j, row = some j → j < base) : FrO base n W' sts :=
  fun s hs => ⟨(h s hs).1, (h s hs).2.1.kept hg hr, (h s hs).2.2⟩
theorem ow_far {k : IntKind} {e base g : Nat} {t : TypeId} {w w' : World} {v : Value} {xs : List Int} {cur : Array Value} (h : Ow k e base w v xs) (hB : w.heap[g]? = some (.cells cur t (0, 0))) (hne : t ≠ e) (hg : w.grownBy w' (some g)) : Ow k e base w' v xs := by
  have h' : w.ownsRow base e 1 v xs.length (xs.map (Value.int k)) := h
  rcases h.2 with ⟨rfl, _⟩ | ⟨b, cap, cu, rfl, _, hb, _⟩
  · exact h'.kept hg (Or.inl rfl)
  · refine h'.kept hg (Or.inr ?_)
    intro e1
    have e2 : b = g := by simpa [Value.ownBlock] using e1
    subst e2
    rw [hB] at hb
    cases hb
    exact hne rfl
theorem FrO.far {base n g : Nat} {W W' : World} {sts : List St} {cur : Array Value} {t : TypeId} (h : FrO base n W sts) (hB : W.heap[g]? = some (.cells cur t (0, 0))) (hne : t ≠ 2) (hg : W.grownBy W' (some g)) : FrO base n W' sts :=
  fun s hs => ⟨(h s hs).1, ow_far (h s hs).2.1 hB hne hg, (h s hs).2.2⟩
theorem infoSt : (Tryd.prog.info? 46).map (fun i => (i.zero, i.size, i.bytes)) = some (some (.agg #[.slice none 0 0, .int .i64 0, .int .i64 0, .int .i64 0, .int .i64 0, .int .i64 0, .int .i64 0, .int .i64 0, .int .i64 0, .int .i64 0, .int .i64 0, .int .i64 0, .int .i64 0]), 13, 120) := by kernel_rfl
/-- The source, and the steps that were drawn so far. -/
structure DS (w0 w : World) (g gl cl : Nat) (a : Option Addr) (cap : Nat) (bs : List Int) (at2 n : Nat) (sts : List St) (W : World) : Prop where
  s : Src w0 W g a cap bs at2
  o : W.ownsRow w.heap.size 46 13 (.slice (some ⟨gl, 0, none⟩) sts.length cl) sts.length (fl sts)
  f : FrO w.heap.size n W sts
  k : w.grownBy W (some g)
  lg : g < w.heap.size
section
variable {w0 w W W' : World} {g gl cl : Nat} {a : Option Addr} {cap : Nat} {bs : List Int} {at2 at3 n : Nat} {sts : List St}
theorem DS.next (h : DS w0 w g gl cl a cap bs at2 n sts W) (hs : Src w0 W' g a cap bs at3) (hg : W.grownBy W' (some g)) : DS w0 w g gl cl a cap bs at3 n sts W' :=
  have h3 := h.lg
  ⟨hs, h.o.kept hg (.inr fun e => by
      have := (h.o.lt gl rfl).1
      have : gl = g := by simpa [Value.ownBlock] using e
      omega), h.f.kept hg (fun j e => by cases e; exact h3), grown_same h.k hg, h3⟩
theorem DS.later (h : DS w0 w g gl cl a cap bs at2 n sts W) (hb : Below W.heap.size W W') : DS w0 w g gl cl a cap bs at2 n sts W' :=
  h.next (src_grown (row := none) h.s (grown_below hb) (fun _ e => by cases e)) (grown_below hb)
theorem DS.alloc (h : DS w0 w g gl cl a cap bs at2 n sts W) (o : Obj) : DS w0 w g gl cl a cap bs at2 n sts (W.alloc o) := h.later (bmore (Below.refl _ _) o)
theorem DS.block (h : DS w0 w g gl cl a cap bs at2 n sts W) : w.heap.size ≤ gl ∧ ∃ cur, W.heap[gl]? = some (.cells cur 46 (0, 0)) := by
  rcases h.o.2 with ⟨e, _⟩ | ⟨g1, c1, cur, e, hb, hc, _⟩
  · cases e
  · cases e; exact ⟨hb, cur, hc⟩
end
set_option maxRecDepth 100000 in
set_option maxHeartbeats 4000000 in
theorem l20Steps_calls (w0 w : World) (g : Nat) (a : Option Addr) (cap : Nat) (bs : List Int) (at' : Nat) (n m : Nat) (calm : Int) (h : Src w0 w g a cap bs at') (hat : at' ≤ 1000) (hn : n ≤ 20) (hm : m ≤ 20) :
    Calls Tryd.prog 41 #[.pointer (some ⟨g, 0, none⟩), .int .i64 (n : Int), .int .i64 (m : Int), .int .i64 calm] w fun e w' => ∃ gl cl sts at2, e = .returned (.slice (some ⟨gl, 0, none⟩) sts.length cl) ∧ sts.length = m ∧ at2 ≤ at' + 60 * m ∧ DS w0 w g gl cl a cap bs at2 n sts w' := by
  obtain ⟨i0, hi, hz0, hz1, hz2⟩ := info_parts infoSt
  have hlg := src_lt h
  have HD : Hid (DS w0 w g w.heap.size 0 a cap bs at' n [] (w.alloc (.cells #[] 46))) := ⟨src_alloc h _, ⟨rfl, .inr ⟨w.heap.size, 0, #[], rfl, Nat.le_refl _, World.alloc_heap_new w _, Nat.le_refl _, Nat.zero_le _, rfl, rfl⟩⟩, fun s hs => by simp at hs, grown_below (bmore (Below.refl _ w) _), hlg⟩
  clear h
  go_enter Tryd.func41, Tryd.ntmps41
  go_wp2_with fail
  go_loopw [9, 2] (fun o i wr => ∃ (k gl cl at4 : Nat) (sts : List St), o = .slice (some ⟨gl, 0, none⟩) sts.length cl ∧ i = .int .i64 (k : Int) ∧ k + sts.length = m ∧ at4 ≤ at' + 60 * sts.length ∧ Hid (DS w0 w g gl cl a cap bs at4 n sts wr)) (fun _ i _ => (intOf i).toNat)
  case atStart => exact ⟨m, w.heap.size, 0, at', [], rfl, rfl, by simp, by simp, HD.out⟩
  case round =>
    clear HD
    obtain ⟨k, gl2, cl, at4, sts, rfl, rfl, hk, hat4, hD⟩ := hrel
    by_cases hpos : 0 < k
    · obtain ⟨k', rfl⟩ : ∃ k', k = k' + 1 := ⟨k - 1, by omega⟩
      have e0 : ((k' + 1 : Nat) : Int) - 1 = (k' : Int) := by omega
      go_wp2_with fail
      refine (l20Step_calls w0 _ g a cap bs at4 n calm hD.out.s (by omega) hn).mono ?_
      rintro e w5 ⟨gf, cf, ys, x1, x2, x3, x4, x5, x6, x7, x8, x9, x10, x11, x12, at5, rfl, ho5, hn5, hy5, hat5, hs5, hg5⟩
      have hsz := hD.out.k.size
      have HO := hid (ho5.mono hsz)
      have Hy := hid (And.intro hn5 hy5)
      have HD5 := hid (hD.out.next hs5 hg5)
      clear hs5 hg5 hD ho5 hn5 hy5 hsz
      have hgz := HD5.out.k.size
      go_wp2_with (at_builtin; refine wpList_append_own_at _ rfl _ _ 24 rfl w.heap.size 46 i0 (.agg #[.slice none 0 0, .int .i64 0, .int .i64 0, .int .i64 0, .int .i64 0, .int .i64 0, .int .i64 0, .int .i64 0, .int .i64 0, .int .i64 0, .int .i64 0, .int .i64 0, .int .i64 0]) 13 120 Tryd.underlying24 hi hz0 hz1 hz2 rfl (by decide) (.slice (some ⟨gl2, 0, none⟩) sts.length cl) sts.length (fl sts) rfl (HD5.out.alloc _).o ⟨w5.heap.size, 0, none⟩ 1 1 [.slice (some ⟨gf, 0, none⟩) n cf, .int .i64 x1, .int .i64 x2, .int .i64 x3, .int .i64 x4, .int .i64 x5, .int .i64 x6, .int .i64 x7, .int .i64 x8, .int .i64 x9, .int .i64 x10, .int .i64 x11, .int .i64 x12] rfl rfl ?c1 ?c2 ?c3 ?c4 ?c5 ?_)
      case c1 =>
        intro j u hj
        have hb := Blk.new w5 #[.slice (some ⟨gf, 0, none⟩) n cf, .int .i64 x1, .int .i64 x2, .int .i64 x3, .int .i64 x4, .int .i64 x5, .int .i64 x6, .int .i64 x7, .int .i64 x8, .int .i64 x9, .int .i64 x10, .int .i64 x11, .int .i64 x12] 46
        have := hb.cell j
        rw [Addr.add_lit, Nat.zero_add, this, ← hj]
        simp
      case c2 => simp [Value.oneCell']
      case c3 => rw [show maxLen = 9223372036854775807 by decide]; omega
      case c4 => omega
      case c5 => simp; omega
      intro v6 w6 ho6 hg6 _ _
      obtain ⟨g6, c6, rfl⟩ := ownsRow_succ ho6
      have HD6 : Hid (DS w0 w g g6 c6 a cap bs at5 n (sts ++ [(.slice (some ⟨gf, 0, none⟩) n cf, [x1, x2, x3, x4, x5, x6, x7, x8, x9, x10, x11, x12], ys)]) w6) := by
        have hA := HD5.out.alloc (.cells #[.slice (some ⟨gf, 0, none⟩) n cf, .int .i64 x1, .int .i64 x2, .int .i64 x3, .int .i64 x4, .int .i64 x5, .int .i64 x6, .int .i64 x7, .int .i64 x8, .int .i64 x9, .int .i64 x10, .int .i64 x11, .int .i64 x12] 46)
        have hOA := HO.out.alloc (.cells #[.slice (some ⟨gf, 0, none⟩) n cf, .int .i64 x1, .int .i64 x2, .int .i64 x3, .int .i64 x4, .int .i64 x5, .int .i64 x6, .int .i64 x7, .int .i64 x8, .int .i64 x9, .int .i64 x10, .int .i64 x11, .int .i64 x12] 46)
        obtain ⟨hge, cur, hcur⟩ := hA.block
        have hg6' : World.grownBy _ w6 (some gl2) := hg6
        have h1 := hA.s.1
        have h2 := hA.lg
        refine ⟨src_grown hA.s hg6' (fun j e => by cases e; omega), ?_, ?_, DrwH.far_k hA.k hge hg6', h2⟩
        · rw [List.length_append, fl_append]
          exact ho6
        · intro s hs
          rcases List.mem_append.mp hs with hs | hs
          · exact (hA.f.far hcur (by decide) hg6') s hs
          · obtain rfl := List.mem_singleton.mp hs
            exact ⟨⟨gf, cf, rfl⟩, ow_far hOA hcur (by decide) hg6', Hy.out.1, Hy.out.2, rfl⟩
      have e1 : Hid (Value.slice (some ⟨g6, 0, none⟩) (sts.length + 1) c6 = .slice (some ⟨g6, 0, none⟩) (sts ++ [(Value.slice (some ⟨gf, 0, none⟩) n cf, [x1, x2, x3, x4, x5, x6, x7, x8, x9, x10, x11, x12], ys)]).length c6) := by show _ = _; rw [List.length_append]; rfl
      clear ho6 hg6 HD5 HO Hy
      go_wp2
      go_roundw
      case rel => exact ⟨k', g6, c6, at5, _, e1.out, by go_num, by simp; omega, by simp; omega, HD6.out⟩
      case measure => simp [intOf]
    · obtain rfl : k = 0 := by omega
      go_wp2
      go_ret
      exact ⟨gl2, cl, sts, at4, rfl, by omega, by omega, hD.out⟩
end Go.Proofs.YtobmngoodjmdaaaDoor.DrwO
