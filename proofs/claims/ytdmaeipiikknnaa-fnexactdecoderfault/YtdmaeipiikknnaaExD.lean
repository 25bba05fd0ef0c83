/- The laws' helpers over decoders and slots. -/
import Derived.Test.YtdmaeipiikknnaaTakT
namespace Go.Proofs.Ytdmaeipiikknnaa.ExD
open Go.ChangeShapes Go.WideShapes Go.ChangeAt Go.RowKit Go.Proofs.Ytdmaeipiikknnaa.Num Go.Proofs.Ytdmaeipiikknnaa.Sli Go.Proofs.Ytdmaeipiikknnaa.App Go.Proofs.Ytdmaeipiikknnaa.Byt Go.Proofs.Ytdmaeipiikknnaa.CrcM Go.Proofs.Ytdmaeipiikknnaa.Str Go.Proofs.Ytdmaeipiikknnaa.Div Go.Proofs.Ytdmaeipiikknnaa.Dec Go.Proofs.Ytdmaeipiikknnaa.Blk Go.Proofs.Ytdmaeipiikknnaa.Nxt Go.Proofs.Ytdmaeipiikknnaa.Byte Go.Proofs.Ytdmaeipiikknnaa.TakS Go.Proofs.Ytdmaeipiikknnaa.TakT

/-- A decoder that came in, in its box at block b. -/
structure PD (w : World) (b : Nat) (a : Option Addr) (cap : Nat) (xs : List Int) (u v r : Int) (T : TypeId) (W : World) : Prop where
  p : Blk W b #[.slice a xs.length cap, .int .i64 u, .int .i64 v, .int .i64 r] T
  s : Sl .u8 W (.slice a xs.length cap) xs
  l : Below w.heap.size w W
theorem PD.later {w : World} {b : Nat} {a : Option Addr} {cap : Nat} {xs : List Int} {u v r : Int} {T : TypeId} {W W' : World} (h : PD w b a cap xs u v r T W) (hb : Below W.heap.size W W') : PD w b a cap xs u v r T W' :=
  ⟨h.p.later hb, h.s.later hb, bthen h.l hb⟩
theorem PD.alloc {w : World} {b : Nat} {a : Option Addr} {cap : Nat} {xs : List Int} {u v r : Int} {T : TypeId} {W : World} (h : PD w b a cap xs u v r T W) (o : Obj) : PD w b a cap xs u v r T (W.alloc o) := h.later (bmore (Below.refl _ _) o)
theorem PD.drew {w : World} {b : Nat} {a : Option Addr} {cap : Nat} {xs : List Int} {u v r : Int} {T : TypeId} {W : World} (h : PD w b a cap xs u v r T W) : PD w b a cap xs u v r T W.drew := ⟨h.p, h.s, drewB h.l⟩
theorem pd_new {w : World} {a : Option Addr} {cap : Nat} {xs : List Int} (u v r : Int) (T : TypeId) (h : Sl .u8 w (.slice a xs.length cap) xs) : PD w w.heap.size a cap xs u v r T (w.alloc (.cells #[.slice a xs.length cap, .int .i64 u, .int .i64 v, .int .i64 r] T)) :=
  ⟨Blk.new _ _ _, h.later (bmore (Below.refl _ _) _), bmore (Below.refl _ _) _⟩

/-- What is left behind a list of n elements. -/
def szV (n : Nat) (left : Int) : Int := if (n : Int) ≤ left then left - n else -1
theorem szV_yes {n : Nat} {left : Int} (h : (n : Int) ≤ left) : szV n left = left - n := if_pos h
theorem szV_no {n : Nat} {left : Int} (h : ¬ (n : Int) ≤ left) : szV n left = -1 := if_neg h
theorem maxL : maxLen = 9223372036854775807 := by decide
theorem szByteS_calls (a : Option Addr) (n cap : Nat) (left : Int) (w : World) (hn : n ≤ maxLen) (h0 : 0 ≤ left) (h1 : left ≤ 1048576) :
    Calls Try.prog 36 #[.slice a n cap, .int .i64 left] w fun e w' => e = .returned (.int .i64 (szV n left)) ∧ w' = w := by
  rw [maxL] at hn
  have hw : wrap64 (left - n) = left - n := wrap_of (by omega) (by omega)
  by_cases hl : (n : Int) ≤ left
  · rw [szV_yes hl]
    have hl' : 0 ≤ left - n := by omega
    go_enter Try.func36, Try.ntmps36
    go_wp2
    go_ret
    exact ⟨rfl, rfl⟩
  · rw [szV_no hl]
    have hl' : left - n < 0 := by omega
    go_enter Try.func36, Try.ntmps36
    go_wp2
    go_ret
    exact ⟨rfl, rfl⟩
theorem szDecoder_calls (a : Option Addr) (n cap : Nat) (p q r left : Int) (w : World) (hn : n ≤ maxLen) (h0 : 0 ≤ left) (h1 : left ≤ 1048576) :
    Calls Try.prog 18 #[.agg #[.slice a n cap, .int .i64 p, .int .i64 q, .int .i64 r], .int .i64 left] w fun e w' => e = .returned (.int .i64 (szV n left)) ∧ Below w.heap.size w w' := by
  have Hb := hid (bmore (Below.refl _ w) (.cells #[.slice a n cap, .int .i64 p, .int .i64 q, .int .i64 r] 42))
  have Hc := hid (szByteS_calls a n cap left (w.alloc (.cells #[.slice a n cap, .int .i64 p, .int .i64 q, .int .i64 r] 42)) hn h0 h1)
  by_cases hl : (n : Int) ≤ left
  · rw [szV_yes hl] at *
    have hl' : 0 ≤ left - n := by omega
    generalize left - (n : Int) = z at *
    go_enter Try.func18, Try.ntmps18
    go_wp2_with fail
    refine Hc.out.mono ?_
    rintro e w' ⟨rfl, rfl⟩
    go_wp2
    go_ret
    exact ⟨rfl, Hb.out⟩
  · rw [szV_no hl] at *
    go_enter Try.func18, Try.ntmps18
    go_wp2_with fail
    refine Hc.out.mono ?_
    rintro e w' ⟨rfl, rfl⟩
    go_wp2
    go_ret
    exact ⟨rfl, Hb.out⟩
theorem toSlot_calls (u v r : Int) (w : World) :
    Calls Try.prog 17 #[.agg #[.int .i64 u, .int .i64 v, .int .i64 r]] w fun e w' => e = .returned (.agg #[.int .i64 u, .int .i64 v, .int .i64 r]) ∧ Below w.heap.size w w' := by
  go_enter Try.func17, Try.ntmps17
  go_wp2
  refine bodyPost_ret (v := .agg #[.int .i64 u, .int .i64 v, .int .i64 r]) (by simp [results, Try.results17, go_sem]) rfl ⟨rfl, ?_⟩
  exact bmore (bmore (bmore (Below.refl _ _) _) _) _
theorem toDecoder_calls (v : Value) (xs : List Int) (p q r : Int) (w : World) (h : Sl .u8 w v xs) (hlen : xs.length ≤ 1048576) :
    Calls Try.prog 19 #[.agg #[v, .int .i64 p, .int .i64 q, .int .i64 r]] w fun e w' => ∃ g, e = .returned (.agg #[.slice (some ⟨g, 0, none⟩) xs.length xs.length, .int .i64 p, .int .i64 q, .int .i64 r]) ∧ OwB w.heap.size w' (.slice (some ⟨g, 0, none⟩) xs.length xs.length) xs ∧ Below w.heap.size w w' := by
  have H := hid h
  obtain ⟨a, cap, rfl, _⟩ := h
  go_enter Try.func19, Try.ntmps19
  go_wp2_with fail
  refine (toByteS_calls _ xs _ (H.out.later (bmore (bmore (bmore (Below.refl _ _) _) _) _)) hlen).mono ?_
  rintro e w1 ⟨g1, rfl, ho, hb⟩
  obtain ⟨A, B, C, hall, hsz⟩ := boxes3 hb
  obtain ⟨a0, a1, a2, a3, _⟩ := A.four
  obtain ⟨b0, b1, b2, b3, bf0, bf1, bf2, bf3⟩ := B.four
  obtain ⟨c0, c1, c2, c3, cf0, cf1, cf2, cf3⟩ := C.four
  have HO := hid ho
  have Hall := hid hall
  clear ho hb A B C hall
  go_wp2
  refine bodyPost_ret (v := .agg #[.slice (some ⟨g1, 0, none⟩) xs.length xs.length, .int .i64 p, .int .i64 q, .int .i64 r]) (by simp [results, Try.results19, go_sem, b0, b1, b2, b3]) rfl ⟨g1, rfl, ?_, ?_⟩
  · refine Ow.mono (base := w.heap.size + 3) ?_ (by omega)
    refine Ow.kept (row := some (w.heap.size + 1)) ?_ (grown_set4 _ _ _ _ _ _) (fun j e => by cases e; omega)
    refine Ow.kept (row := some (w.heap.size + 1 + 1)) ?_ (grown_set4 _ _ _ _ _ _) (fun j e => by cases e; omega)
    exact HO.out.mono (by simp)
  · have h1 : w.heap.size ≤ w.heap.size + 1 := by omega
    have h2 : w.heap.size ≤ w.heap.size + 1 + 1 := by omega
    exact below_cell (below_cell (below_cell (below_cell (below_cell (below_cell (below_cell (below_cell Hall.out h2 _ _) h2 _ _) h2 _ _) h2 _ _) h1 _ _) h1 _ _) h1 _ _) h1 _ _
theorem eqDecoder_calls (v1 v2 : Value) (xs : List Int) (p q r : Int) (w : World) (h1 : Sl .u8 w v1 xs) (h2 : Sl .u8 w v2 xs) (hlen : xs.length ≤ 1048576) :
    Calls Try.prog 20 #[.agg #[v1, .int .i64 p, .int .i64 q, .int .i64 r], .agg #[v2, .int .i64 p, .int .i64 q, .int .i64 r]] w fun e w' => e = .returned (.bool true) ∧ Below w.heap.size w w' := by
  have H1 := hid h1
  have H2 := hid h2
  obtain ⟨a1, cap1, rfl, _⟩ := h1
  obtain ⟨a2, cap2, rfl, _⟩ := h2
  go_enter Try.func20, Try.ntmps20
  go_wp2_with fail
  refine (eqByteS_calls _ _ xs _ (H1.out.later (bmore (bmore (Below.refl _ _) _) _)) (H2.out.later (bmore (bmore (Below.refl _ _) _) _)) hlen).mono ?_
  rintro e w1 ⟨rfl, hb⟩
  obtain ⟨A, B, hall, _⟩ := boxes2 hb
  obtain ⟨a0, a1, a2, a3, _⟩ := A.four
  obtain ⟨b0, b1, b2, b3, _⟩ := B.four
  have Hall := hid hall
  clear hb A B hall
  go_wp2
  go_ret
  exact ⟨rfl, Hall.out⟩
theorem grown_back {w w' : World} {o : Obj} {r : Option Nat} (h : (w.alloc o).grownBy w' r) : w.grownBy w' r :=
  ⟨h.os, h.tape, h.output, Nat.le_trans (by simp) h.size, fun j hj hne => (h.block j (by simp; omega) hne).trans (Below.heap_alloc _ _ j hj)⟩
end Go.Proofs.Ytdmaeipiikknnaa.ExD
