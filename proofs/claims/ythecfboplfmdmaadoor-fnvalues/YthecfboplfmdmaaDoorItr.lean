/- The iterator over the bytes that a decoder has not read. -/
import Derived.Test.YthecfboplfmdmaaDoorTakT
import Derived.Test.YthecfboplfmdmaaDoorRngF
import Derived.Shelf.Abstract
import Derived.Shelf.RegionOpen
import Derived.WalkKit
import Derived.OwnWalkIn
import Derived.TacticsInMore
import Derived.LoopNIn
import Derived.LoopIn
namespace Go.Proofs.YthecfboplfmdmaaDoor.Itr
open Go.ChangeShapes Go.WideShapes Go.ChangeAt Go.RowKit Go.Proofs.YthecfboplfmdmaaDoor.Num Go.Proofs.YthecfboplfmdmaaDoor.Sli Go.Proofs.YthecfboplfmdmaaDoor.App Go.Proofs.YthecfboplfmdmaaDoor.Byt Go.Proofs.YthecfboplfmdmaaDoor.CrcM Go.Proofs.YthecfboplfmdmaaDoor.Str Go.Proofs.YthecfboplfmdmaaDoor.Div Go.Proofs.YthecfboplfmdmaaDoor.Dec Go.Proofs.YthecfboplfmdmaaDoor.Blk Go.Proofs.YthecfboplfmdmaaDoor.Nxt Go.Proofs.YthecfboplfmdmaaDoor.Byte Go.Proofs.YthecfboplfmdmaaDoor.TakS Go.Proofs.YthecfboplfmdmaaDoor.TakT Go.Proofs.YthecfboplfmdmaaDoor.RngF
attribute [local go_sem] Oper.semAt_some

theorem unread_calls (a : Option Addr) (n cap : Nat) (p q r : Int) (w : World) :
    Calls Tryd.prog 78 #[.agg #[.slice a n cap, .int .i64 p, .int .i64 q, .int .i64 r]] w fun e w' => e = .returned (.func (.func 95) #[] #[.pointer (some ⟨w.heap.size, 0, none⟩)]) ∧ w' = w.alloc (.cells #[.slice a n cap, .int .i64 p, .int .i64 q, .int .i64 r] 88) := by
  have hmf : ∀ (fn : Fn) (first cap : Array Value) (w : World), (Instr.makeFunc fn first cap).run Tryd.prog w = .ok (.func fn first cap) w := fun _ _ _ _ => rfl
  go_enter Tryd.func78, Tryd.ntmps78
  go_wp2
  go_ret
  exact ⟨rfl, rfl⟩
set_option maxHeartbeats 1000000 in
theorem unread1_in {r0 : Loop} {rc : Code → Loop} {B box a0 N : Nat} {v : Value} {xs : List Int} {rst rng : Int}
    (I O : Nat → Int → World → Prop) (X : Nat → Int → Code → World → Prop) (J : Nat → World → Prop) (Xn : Code → World → Prop)
    (hJ : ∀ s W, J s W → Blk W box #[v, .int .i64 a0, .int .i64 rst, .int .i64 rng] 88 ∧ Sl .u8 W v xs ∧ s ≤ N)
    (hI : ∀ s W W', J s W → Below W.heap.size W W' → I s (xs.getD (a0 + s) 0) W')
    (hO : ∀ s x W, O s x W → J (s + 1) W) (hX : ∀ s x c W, X s x c W → Xn c W) (ha : a0 + N ≤ 20000)
    (hY : ∀ s x W, I s x W → Bk B r0 W → YieldAt Fence.wide 0 Tryd.prog (B + 1) #[.int .u8 x] W fun e W' =>
      (e = .returned (.bool true) ∧ O s x W' ∧ Bk B r0 W') ∨ (e = .returned (.bool false) ∧ ∃ c, X s x c W' ∧ Bk B (rc c) W'))
    (W : World) (h0 : J 0 W) (hb : Bk B r0 W) :
    CallsIn Fence.wide 0 Tryd.prog 95 #[.func (.yield (B + 1)) #[] #[], .pointer (some ⟨box, 0, none⟩)] W fun e W' => (∃ v, e = .returned v) ∧ ((False ∧ Bk B r0 W') ∨ ∃ c, Xn c W' ∧ Bk B (rc c) W') := by
  have H0 := hid h0
  have HBk := hid hb
  have HY := hid hY
  have HI := hid hI
  have HO := hid hO
  have HX := hid hX
  have HJ := hid hJ
  obtain ⟨B0, hsl, _⟩ := hJ 0 W h0
  obtain ⟨a, cap, rfl, _⟩ := hsl
  obtain ⟨c0, c1, c2, c3, _⟩ := B0.four
  clear hY hI hO hX hJ h0 hb B0
  refine callsIn_of_wp Tryd.func95 rfl trivial ?_ rfl
  simp only [Tryd.ntmps95, List.size_toArray, List.length_cons, List.length_nil, Nat.reduceAdd, Nat.reduceSub, Array.replicate_succ, Array.replicate_zero, List.push_toArray, List.append_toArray, List.nil_append, List.cons_append]
  gi_wp2
  gi_loopw [3] (fun p wr => ∃ s m : Nat, Hid (m = a0 + s) ∧ p = .int .i64 (m : Int) ∧ Hid (J s wr) ∧ Hid (Bk B r0 wr)) (fun p _ => a0 + N + 1 - (intOf p).toNat)
  case atStart => exact ⟨0, a0, rfl, rfl, H0.out, HBk.out⟩
  case round =>
    obtain ⟨s, m, hm, rfl, hj, hbk⟩ := hrel
    obtain ⟨hblk, hsl, hs⟩ := HJ.out s wr hj.out
    have hm0 : m ≤ 20000 := by have := hm.out; omega
    have HC := hid (byteAt_calls _ xs m a0 rst rng wr hsl)
    obtain ⟨c0, c1, c2, c3, _⟩ := hblk.four
    clear hblk hsl
    gi_wp2_with fail
    refine ⟨trivial, rfl, (callsIn_wide.2 HC.out).mono ?_⟩
    rintro e w1 ⟨rfl, hb1⟩
    have hi : I s (xs.getD m 0) w1 := by rw [hm.out]; exact HI.out s wr w1 hj.out hb1
    obtain ⟨fn, tmps, assign, body, hy, hR⟩ := HY.out s (xs.getD m 0) w1 hi (hbk.out.keep (Kp2.below hb1 hbk.out.lt))
    have HR := hid hR
    clear hR hi
    generalize xs.getD m 0 = x at *
    clear HC c0 c1 c2 c3 hb1 hj hbk
    gi_wp2
    refine ⟨rfl, HR.out.mono ?_⟩
    rintro e W2 (⟨rfl, ho, hk⟩ | ⟨rfl, c, hx, hk⟩)
    · have Hj := hid (HO.out _ _ _ ho)
      have Hk := hid hk
      have hs2 := (HJ.out _ _ Hj.out).2.2
      clear ho hk hy HR
      gi_wp2
      go_roundw
      case rel => exact ⟨s + 1, m + 1, (by have := hm.out; unfold Hid; omega), by go_num, Hj.out, Hk.out⟩
      case measure => simp [intOf]; have := hm.out; omega
    · have Hx := hid (HX.out _ _ _ _ hx)
      have Hk := hid hk
      clear hx hk hy HR
      gi_wp2
      go_end0
      exact ⟨⟨_, rfl⟩, .inr ⟨c, Hx.out, Hk.out⟩⟩
end Go.Proofs.YthecfboplfmdmaaDoor.Itr
