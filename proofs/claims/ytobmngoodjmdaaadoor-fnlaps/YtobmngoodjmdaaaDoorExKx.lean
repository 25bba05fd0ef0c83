/- What an exact law over an answer with several lists keeps from the answer on: boxes, the model's lists, the answer's lists. -/
import Derived.Test.YtobmngoodjmdaaaDoorOwsG
namespace Go.Proofs.YtobmngoodjmdaaaDoor.ExKx
open Go.ChangeShapes Go.WideShapes Go.ChangeAt Go.RowKit Go.Proofs.YtobmngoodjmdaaaDoor.Num Go.Proofs.YtobmngoodjmdaaaDoor.Sli Go.Proofs.YtobmngoodjmdaaaDoor.App Go.Proofs.YtobmngoodjmdaaaDoor.Blk Go.Proofs.YtobmngoodjmdaaaDoor.IntL Go.Proofs.YtobmngoodjmdaaaDoor.OwsG

/-- bs: boxes; ws: the model's lists, below A; gs: the answer's lists, from B on. -/
structure KX (w : World) (bs : List (Nat × Array Value × TypeId)) (A B : Nat) (ws gs : List (Value × List Int)) (W : World) : Prop where
  bx : ∀ p ∈ bs, Blk W p.1 p.2.1 p.2.2
  sw : ∀ p ∈ ws, Sb .i64 A W p.1 p.2
  og : OWS B W gs
  ab : A ≤ B
  sz : B ≤ W.heap.size
  lo : w.heap.size ≤ A
  b : Below w.heap.size w W
section
variable {w W W' : World} {bs : List (Nat × Array Value × TypeId)} {A B : Nat} {ws gs gs' : List (Value × List Int)}
theorem KX.later (h : KX w bs A B ws gs W) (hb : Below W.heap.size W W') : KX w bs A B ws gs W' :=
  ⟨fun p hp => (h.bx p hp).later hb, fun p hp => (h.sw p hp).keep (hb.mono (Nat.le_trans h.ab h.sz)), h.og.later hb, h.ab, Nat.le_trans h.sz hb.size, h.lo, bthen h.b hb⟩
theorem KX.on {S : Nat → Prop} (h : KX w bs A B ws gs W) (ho : On S W W') (hS : ∀ j, S j → A ≤ j) (hbx : ∀ p ∈ bs, ¬ S p.1) (og' : OWS B W' gs') : KX w bs A B ws gs' W' :=
  ⟨fun p hp => ho.blk (h.bx p hp) (hbx p hp), fun p hp => (h.sw p hp).keep (ho.below (Nat.le_trans h.ab h.sz) hS), og', h.ab, Nat.le_trans h.sz ho.size, h.lo, h.b.trans (ho.below (Nat.le_trans (Nat.le_trans h.lo h.ab) h.sz) (fun j e => Nat.le_trans h.lo (hS j e)))⟩
theorem KX.b0 {b : Nat} {c : Array Value} {t : TypeId} {r : List (Nat × Array Value × TypeId)} (h : KX w ((b, c, t) :: r) A B ws gs W) : Blk W b c t := h.bx (b, c, t) (List.mem_cons_self ..)
theorem KX.b1 {p : Nat × Array Value × TypeId} {b : Nat} {c : Array Value} {t : TypeId} {r : List (Nat × Array Value × TypeId)} (h : KX w (p :: (b, c, t) :: r) A B ws gs W) : Blk W b c t := h.bx (b, c, t) (List.mem_cons_of_mem _ (List.mem_cons_self ..))
theorem KX.b2 {p q : Nat × Array Value × TypeId} {b : Nat} {c : Array Value} {t : TypeId} {r : List (Nat × Array Value × TypeId)} (h : KX w (p :: q :: (b, c, t) :: r) A B ws gs W) : Blk W b c t := h.bx (b, c, t) (List.mem_cons_of_mem _ (List.mem_cons_of_mem _ (List.mem_cons_self ..)))
theorem KX.b3 {p q s : Nat × Array Value × TypeId} {b : Nat} {c : Array Value} {t : TypeId} {r : List (Nat × Array Value × TypeId)} (h : KX w (p :: q :: s :: (b, c, t) :: r) A B ws gs W) : Blk W b c t := h.bx (b, c, t) (List.mem_cons_of_mem _ (List.mem_cons_of_mem _ (List.mem_cons_of_mem _ (List.mem_cons_self ..))))
theorem KX.w0 {v : Value} {xs : List Int} {r : List (Value × List Int)} (h : KX w bs A B ((v, xs) :: r) gs W) : Sl .i64 W v xs := (h.sw (v, xs) (List.mem_cons_self ..)).sl (Nat.le_trans h.ab h.sz)
theorem KX.w1 {p : Value × List Int} {v : Value} {xs : List Int} {r : List (Value × List Int)} (h : KX w bs A B (p :: (v, xs) :: r) gs W) : Sl .i64 W v xs := (h.sw (v, xs) (List.mem_cons_of_mem _ (List.mem_cons_self ..))).sl (Nat.le_trans h.ab h.sz)
theorem KX.w2 {p q : Value × List Int} {v : Value} {xs : List Int} {r : List (Value × List Int)} (h : KX w bs A B (p :: q :: (v, xs) :: r) gs W) : Sl .i64 W v xs := (h.sw (v, xs) (List.mem_cons_of_mem _ (List.mem_cons_of_mem _ (List.mem_cons_self ..)))).sl (Nat.le_trans h.ab h.sz)
end
end Go.Proofs.YtobmngoodjmdaaaDoor.ExKx
