/- Several owned lists that share no block, and worlds that differ in some blocks alone: for laws over answers with several lists. -/
import Derived.Test.YtpoannaidojmoaaIntA
import Derived.Test.YtpoannaidojmoaaBlk
namespace Go.Proofs.Ytpoannaidojmoaa.OwsG
open Go.ChangeShapes Go.WideShapes Go.ChangeAt Go.RowKit Go.Proofs.Ytpoannaidojmoaa.Num Go.Proofs.Ytpoannaidojmoaa.Sli Go.Proofs.Ytpoannaidojmoaa.App Go.Proofs.Ytpoannaidojmoaa.Blk Go.Proofs.Ytpoannaidojmoaa.IntL Go.Proofs.Ytpoannaidojmoaa.IntA

/-- Owned lists of numbers, no two of them in one block. -/
structure OWS (base : Nat) (w : World) (ps : List (Value × List Int)) : Prop where
  own : ∀ p ∈ ps, OwI base w p.1 p.2
  ne : ps.Pairwise (fun p q => ∀ g, p.1.ownBlock = some g → q.1.ownBlock ≠ some g)
/-- The blocks of lists. -/
def Ob (vs : List Value) (j : Nat) : Prop := ∃ v ∈ vs, v.ownBlock = some j
/-- Only blocks of S differ, or are new. -/
structure On (S : Nat → Prop) (w w' : World) : Prop where
  os : w'.os = w.os
  tape : w'.tape = w.tape
  output : w'.output = w.output
  size : w.heap.size ≤ w'.heap.size
  block : ∀ j, j < w.heap.size → ¬ S j → w'.heap[j]? = w.heap[j]?
section
variable {S : Nat → Prop} {a w w' : World} {base : Nat} {ps : List (Value × List Int)}
theorem On.refl (S : Nat → Prop) (w : World) : On S w w := ⟨rfl, rfl, rfl, Nat.le_refl _, fun _ _ _ => rfl⟩
theorem On.trans (h : On S a w) (k : On S w w') : On S a w' :=
  ⟨k.os.trans h.os, k.tape.trans h.tape, k.output.trans h.output, Nat.le_trans h.size k.size, fun j hj hs => (k.block j (Nat.lt_of_lt_of_le hj h.size) hs).trans (h.block j hj hs)⟩
theorem On.more {T : Nat → Prop} (h : On S w w') (hST : ∀ j, S j → T j) : On T w w' := ⟨h.os, h.tape, h.output, h.size, fun j hj hs => h.block j hj (fun e => hs (hST j e))⟩
theorem On.of_grown {r : Option Nat} (h : w.grownBy w' r) : On (fun j => r = some j) w w' := ⟨h.os, h.tape, h.output, h.size, fun j hj hs => h.block j hj (fun e => hs e.symm)⟩
theorem On.of_below (h : Below w.heap.size w w') : On S w w' := ⟨h.os, h.tape, h.output, h.size, fun j hj _ => h.block j hj⟩
theorem On.below {n : Nat} (h : On S w w') (hn : n ≤ w.heap.size) (hS : ∀ j, S j → n ≤ j) : Below n w w' :=
  ⟨h.os, h.tape, h.output, h.size, fun k hk => h.block k (by omega) (fun e => by have := hS k e; omega)⟩
theorem On.blk {b : Nat} {vs : Array Value} {t : TypeId} (h : On S w w') (hb : Blk w b vs t) (hs : ¬ S b) : Blk w' b vs t := (h.block b hb.lt hs).trans hb
theorem On.ow {v : Value} {ys : List Int} (h : On S w w') (ho : OwI base w v ys) (hs : ∀ j, v.ownBlock = some j → ¬ S j) : OwI base w' v ys := by
  have hbl := ho.block
  refine ⟨ho.1, ho.2.imp id ?_⟩
  rintro ⟨g, cap, cur, rfl, hg, hh, hr⟩
  exact ⟨g, cap, cur, rfl, hg, (h.block g (hbl g rfl).2 (hs g rfl)).trans hh, hr⟩
theorem OWS.later (h : OWS base w ps) (hb : Below w.heap.size w w') : OWS base w' ps := ⟨fun p hp => (h.own p hp).later hb, h.ne⟩
theorem OWS.mono {base' : Nat} (h : OWS base w ps) (hb : base' ≤ base) : OWS base' w ps := ⟨fun p hp => (h.own p hp).mono hb, h.ne⟩
theorem OWS.blocks (h : OWS base w ps) {j : Nat} (hj : Ob (ps.map Prod.fst) j) : base ≤ j ∧ j < w.heap.size := by
  obtain ⟨v, hv, e⟩ := hj
  obtain ⟨p, hp, rfl⟩ := List.mem_map.1 hv
  exact (h.own p hp).block j e
theorem OWS.on (h : OWS base w ps) (ho : On S w w') (hs : ∀ j, Ob (ps.map Prod.fst) j → ¬ S j) : OWS base w' ps := ⟨fun p hp => ho.ow (h.own p hp) (fun j e => hs j ⟨p.1, List.mem_map.2 ⟨p, hp, rfl⟩, e⟩), h.ne⟩
/-- One of the lists is written: the others stay. -/
theorem OWS.turn {A B : List (Value × List Int)} {v : Value} {xs ys : List Int} (h : OWS base w (A ++ (v, xs) :: B)) (ho : OwI base w' v ys) (hg : w.grownBy w' v.ownBlock) : OWS base w' (A ++ (v, ys) :: B) := by
  obtain ⟨h1, h2⟩ := h
  have hp := List.pairwise_append.1 h2
  obtain ⟨pA, pB, pAB⟩ := hp
  obtain ⟨pv, pB'⟩ := List.pairwise_cons.1 pB
  have hon := On.of_grown hg
  refine ⟨fun p hp => ?_, ?_⟩
  · rcases List.mem_append.1 hp with hA | hB
    · exact hon.ow (h1 p (List.mem_append.2 (.inl hA))) (fun j e e2 => pAB p hA (v, xs) (List.mem_cons_self ..) j e e2)
    · rcases List.mem_cons.1 hB with rfl | hB
      · exact ho
      · exact hon.ow (h1 p (List.mem_append.2 (.inr (List.mem_cons_of_mem _ hB)))) (fun j e e2 => pv p hB j e2 e)
  · refine List.pairwise_append.2 ⟨pA, List.pairwise_cons.2 ⟨fun q hq => pv q hq, pB'⟩, fun p hp q hq => ?_⟩
    rcases List.mem_cons.1 hq with rfl | hq
    · exact pAB p hp (v, xs) (List.mem_cons_self ..)
    · exact pAB p hp q (List.mem_cons_of_mem _ hq)
theorem OWS.two {v u : Value} {xs ys : List Int} (h1 : OwI base w v xs) (h2 : OwI base w u ys) (hn : ∀ g, v.ownBlock = some g → u.ownBlock ≠ some g) : OWS base w [(v, xs), (u, ys)] :=
  by
  refine ⟨fun p hp => ?_, List.pairwise_cons.2 ⟨fun q hq => ?_, List.pairwise_cons.2 ⟨fun _ hq => absurd hq List.not_mem_nil, List.Pairwise.nil⟩⟩⟩
  · rcases List.mem_cons.1 hp with rfl | hp
    · exact h1
    · rcases List.mem_cons.1 hp with rfl | hp
      · exact h2
      · cases hp
  · rcases List.mem_cons.1 hq with rfl | hq
    · exact hn
    · cases hq
theorem OWS.three {v u t : Value} {xs ys zs : List Int} (h : OWS base w [(v, xs), (u, ys)]) (h3 : OwI base w t zs) (n1 : ∀ g, v.ownBlock = some g → t.ownBlock ≠ some g) (n2 : ∀ g, u.ownBlock = some g → t.ownBlock ≠ some g) : OWS base w [(v, xs), (u, ys), (t, zs)] := by
  have hn := (List.pairwise_cons.1 h.ne).1 (u, ys) (List.mem_cons_self ..)
  refine ⟨fun p hp => ?_, ?_⟩
  · rcases List.mem_cons.1 hp with rfl | hp
    · exact h.own _ (List.mem_cons_self ..)
    · rcases List.mem_cons.1 hp with rfl | hp
      · exact h.own _ (List.mem_cons_of_mem _ (List.mem_cons_self ..))
      · rcases List.mem_cons.1 hp with rfl | hp
        · exact h3
        · cases hp
  · refine List.pairwise_cons.2 ⟨fun q hq => ?_, List.pairwise_cons.2 ⟨fun q hq => ?_, List.pairwise_cons.2 ⟨fun _ hq => absurd hq List.not_mem_nil, List.Pairwise.nil⟩⟩⟩
    · rcases List.mem_cons.1 hq with rfl | hq
      · exact hn
      · rcases List.mem_cons.1 hq with rfl | hq
        · exact n1
        · cases hq
    · rcases List.mem_cons.1 hq with rfl | hq
      · exact n2
      · cases hq
theorem OWS.h1 {v : Value} {xs : List Int} {r : List (Value × List Int)} (h : OWS base w ((v, xs) :: r)) : OwI base w v xs := h.own (v, xs) (List.mem_cons_self ..)
theorem OWS.h2 {p : Value × List Int} {v : Value} {xs : List Int} {r : List (Value × List Int)} (h : OWS base w (p :: (v, xs) :: r)) : OwI base w v xs := h.own (v, xs) (List.mem_cons_of_mem _ (List.mem_cons_self ..))
theorem OWS.h3 {p q : Value × List Int} {v : Value} {xs : List Int} {r : List (Value × List Int)} (h : OWS base w (p :: q :: (v, xs) :: r)) : OwI base w v xs := h.own (v, xs) (List.mem_cons_of_mem _ (List.mem_cons_of_mem _ (List.mem_cons_self ..)))
theorem OWS.sub {qs : List (Value × List Int)} (h : OWS base w ps) (hs : List.Sublist qs ps) : OWS base w qs := ⟨fun p hp => h.own p (hs.subset hp), h.ne.sublist hs⟩
theorem Ob.sub {vs us : List Value} {j : Nat} (h : Ob vs j) (hs : List.Sublist vs us) : Ob us j := by obtain ⟨v, hv, e⟩ := h; exact ⟨v, hs.subset hv, e⟩
theorem OWS.tail {p : Value × List Int} {r : List (Value × List Int)} (h : OWS base w (p :: r)) : OWS base w r := ⟨fun q hq => h.own q (List.mem_cons_of_mem _ hq), (List.pairwise_cons.1 h.ne).2⟩
end
end Go.Proofs.Ytpoannaidojmoaa.OwsG
