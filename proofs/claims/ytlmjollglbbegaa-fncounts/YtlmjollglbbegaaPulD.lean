/- What the laws of pulses draw: lengths and numbers of pulses, lists of them, right and wrong ones. Conditions: those of the source. -/
import Derived.Test.YtlmjollglbbegaaSrc
import Derived.Test.YtlmjollglbbegaaLists
import Derived.Test.YtlmjollglbbegaaPulT
import Derived.OwnWalk
namespace Go.Proofs.Ytlmjollglbbegaa.PulD
open Go.ChangeShapes Go.WideShapes Go.ChangeAt Go.RowKit Go.Proofs.Ytlmjollglbbegaa.Num Go.Proofs.Ytlmjollglbbegaa.Sli Go.Proofs.Ytlmjollglbbegaa.App Go.Proofs.Ytlmjollglbbegaa.IntL Go.Proofs.Ytlmjollglbbegaa.IntA Go.Proofs.Ytlmjollglbbegaa.Src Go.Proofs.Ytlmjollglbbegaa.PulM Go.Proofs.Ytlmjollglbbegaa.PulS Go.Proofs.Ytlmjollglbbegaa.PulT

theorem fieldV (c a : Value) (w : World) : (Instr.field 27 (.agg #[c, a]) 1).run Try.prog w = .ok a w := by kernel_rfl
attribute [local go_sem] fieldV
theorem src_later {w0 w w' : World} {g : Nat} {a : Option Addr} {cap : Nat} {bs : List Int} {at' : Nat} (h : Src w0 w g a cap bs at') (hb : Below w.heap.size w w') : Src w0 w' g a cap bs at' := by
  have hlt := src_lt h
  obtain ⟨h1, h2, h3, h4, h5, h6⟩ := h
  exact ⟨h1, bthen h2 hb, h3, h4, h5, (hb.block g hlt).trans h6⟩
set_option maxHeartbeats 1000000 in
theorem drawCountPulses_calls (a : Option Addr) (cap : Nat) (bs : List Int) (w0 : World) (hsl : Sl .u8 w0 (.slice a bs.length cap) bs) (hbd : ∀ x ∈ bs, 0 ≤ x ∧ x ≤ 255) (hlen : bs.length ≤ 1048576) :
    Calls Try.prog 5 #[.slice a bs.length cap] w0 fun e w' => ∃ d k : Int, e = .returned (.tuple #[.int .i64 d, .int .i64 k]) ∧ Below w0.heap.size w0 w' := by
  have H := hid (l1Source_calls a cap bs w0 w0 (Below.refl _ _) hsl hbd hlen)
  clear hsl hbd hlen
  go_enter Try.func5, Try.ntmps5
  go_wp2_with fail
  refine H.out.mono ?_
  rintro e w1 ⟨g, rfl, hs1, _⟩
  have Hs1 := hid hs1
  clear hs1 H
  go_wp2_with fail
  refine (l1Pick_lit w0 _ g a cap bs _ 8 2 [1, 2, 3, 4, 2, 4, 5, 0] _ Hs1.out (by omega) rfl rfl (by omega) (by omega)).mono ?_
  rintro e w2 ⟨d, rfl, _, hs2, _⟩
  have Hs2 := hid hs2
  clear hs2 Hs1
  go_wp2_with fail
  refine (l1Pick_lit w0 _ g a cap bs _ 9 2 [0, 1, 2, 4, 6, 8, 8, 9, -1] _ Hs2.out (by omega) rfl rfl (by omega) (by omega)).mono ?_
  rintro e w3 ⟨k, rfl, _, hs3, _⟩
  have Hb := hid hs3.2.1
  clear hs3 Hs2
  go_wp2
  go_ret2
  exact ⟨_, _, rfl, Hb.out⟩
end Go.Proofs.Ytlmjollglbbegaa.PulD
