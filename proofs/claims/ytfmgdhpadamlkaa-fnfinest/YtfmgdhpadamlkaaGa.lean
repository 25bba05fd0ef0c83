/- The ways of rounding: what each method of impl's named number, and each helper of the model's chapter 1, returns; they turn nothing in the world. Conditions: the numbers lie far below the greatest int64, what is divided by is above 0. || Slices of integers that are only read: what a slice holds, and that it holds it still when nothing old has turned. || RoundDiv, CeilDiv and TenOf, the program's and the model's: both return the same code and the same value; nothing that was there turns. No conditions. || Appending what any slice of numbers holds, empty or not, to a slice that is the call's own; lists that lie below a block; owned lists of numbers. || Blocks that hold a struct: what lies in them, behind what keeps or turns them. || The copy that the laws make of a list of int64 holds the same numbers, in new memory; two slices that hold the same numbers are told alike. Condition: at most 1048576 numbers. || The laws' helpers over lists of int64: a copy holds the same numbers in new memory; what was marked is held; answers with such a list. Condition: at most 1048576 numbers. || Lists of numbers: append, copies, noughts, bounds; what is kept of one list while another one turns. Condition: at most 1048576 numbers. -/
import Derived.Test.YtfmgdhpadamlkaaRows
import Derived.WalkKit
import Derived.ProofKit
import Derived.OpenShut
import Derived.WalkLawsBesides
import Derived.Outline
import Derived.Below
import Derived.Laws.OwnMore
import Derived.OwnWalk
import Derived.Deep.AppendLies
import Derived.RangeFuncNested
import Derived.RegionTactic
import Derived.WalkSpells
namespace Go.Proofs.Ytfmgdhpadamlkaa.Num
open Go.ChangeShapes Go.WideShapes Go.ChangeAt Go.RowKit

theorem ret_int {k : IntKind} {a b : Int} (h : a = b) : Ending.returned (.int k a) = .returned (.int k b) := by rw [h]
theorem ret_bool {a b : Bool} (h : a = b) : Ending.returned (.bool a) = .returned (.bool b) := by rw [h]

theorem bcell {W w1 : World} (hb : Below W.heap.size W w1) : (∀ b o, b < W.heap.size → w1.cell? ⟨b, o, none⟩ = W.cell? ⟨b, o, none⟩) ∧ (∀ b o, b < W.heap.size → w1.frozen? ⟨b, o, none⟩ = W.frozen? ⟨b, o, none⟩) :=
  ⟨fun b o h => hb.cell (p := ⟨b, o, none⟩) h, fun b o h => hb.frozen (p := ⟨b, o, none⟩) h⟩

theorem bthen {w w1 w2 : World} (h : Below w.heap.size w w1) (k : Below w1.heap.size w1 w2) : Below w.heap.size w w2 := h.trans (k.mono h.size)
theorem bmore {w w1 : World} (h : Below w.heap.size w w1) (o : Obj) : Below w.heap.size w (w1.alloc o) := h.alloc h.size o

theorem wrap_of {x : Int} (h1 : -9223372036854775808 ≤ x) (h2 : x ≤ 9223372036854775807) : wrap64 x = x := by
  unfold wrap64; omega

theorem wrapk_of {x : Int} (h1 : -9223372036854775808 ≤ x) (h2 : x ≤ 9223372036854775807) : IntKind.i64.wrap x = x := by
  rw [IntKind.wrap_i64]; omega

theorem floor_lo (v u : Int) (hu : 0 < u) (h : v.tmod u < 0) : v.tdiv u - 1 = v / u := by
  have e : v.tdiv u * u + v.tmod u = v := Int.tdiv_mul_add_tmod v u
  have b := Int.lt_tmod_of_pos v hu
  refine (((Int.ediv_emod_unique (a := v) (b := u) (r := v.tmod u + u) (q := v.tdiv u - 1) hu).2 ⟨?_, by omega, by omega⟩).1).symm
  rw [Int.mul_sub, Int.mul_comm]; omega
theorem floor_hi (v u : Int) (hu : 0 < u) (h : 0 ≤ v.tmod u) : v.tdiv u = v / u := by
  have e : v.tdiv u * u + v.tmod u = v := Int.tdiv_mul_add_tmod v u
  have b := Int.tmod_lt_of_pos v hu
  refine (((Int.ediv_emod_unique (a := v) (b := u) (r := v.tmod u) (q := v.tdiv u) hu).2 ⟨?_, by omega, by omega⟩).1).symm
  rw [Int.mul_comm]; omega
theorem tdiv_small (v u : Int) (hu : 0 < u) (h1 : -4611686018427387904 ≤ v) (h2 : v ≤ 4611686018427387904) : -4611686018427387904 ≤ v.tdiv u ∧ v.tdiv u ≤ 4611686018427387904 := by
  have e : v.tdiv u * u + v.tmod u = v := Int.tdiv_mul_add_tmod v u
  rcases Int.le_total 0 v with hv | hv
  · have a := Int.tdiv_nonneg hv (Int.le_of_lt hu)
    have b := Int.tdiv_le_self u hv
    omega
  · have a := Int.tdiv_nonneg (a := -v) (b := u) (by omega) (Int.le_of_lt hu)
    have b := Int.tdiv_le_self (a := -v) u (by omega)
    rw [Int.neg_tdiv] at a b
    omega

/-- v lies within both bounds. -/
def inB (lo hi v : Int) : Bool := decide (lo ≤ v ∧ v ≤ hi)
theorem inB_yes {lo hi v : Int} (h1 : lo ≤ v) (h2 : v ≤ hi) : inB lo hi v = true := decide_eq_true ⟨h1, h2⟩
theorem inB_no {lo hi v : Int} (h : v < lo ∨ hi < v) : inB lo hi v = false := decide_eq_false (by omega)
theorem of_inB {lo hi v : Int} (h : inB lo hi v = true) : lo ≤ v ∧ v ≤ hi := of_decide_eq_true h
theorem of_notB {lo hi v : Int} (h : inB lo hi v = false) : v < lo ∨ hi < v := by have := of_decide_eq_false h; omega

theorem isWithin_calls (v lo hi : Int) (w : World) :
    Calls Try.prog 15 #[.int .i64 v, .int .i64 lo, .int .i64 hi] w fun e w' => e = .returned (.bool (inB lo hi v)) ∧ w' = w := by
  by_cases h1 : lo ≤ v
  · by_cases h2 : v ≤ hi
    · have H : Hid (true = inB lo hi v) := (inB_yes h1 h2).symm
      go_enter Try.func15, Try.ntmps15
      go_wp2
      go_ret
      exact ⟨ret_bool H.out, rfl⟩
    · have H : Hid (false = inB lo hi v) := (inB_no (by omega)).symm
      go_enter Try.func15, Try.ntmps15
      go_wp2
      go_ret
      exact ⟨ret_bool H.out, rfl⟩
  · have H : Hid (false = inB lo hi v) := (inB_no (by omega)).symm
    go_enter Try.func15, Try.ntmps15
    go_wp2
    go_ret
    exact ⟨ret_bool H.out, rfl⟩

theorem floor_calls (v u : Int) (w : World) (hu : 0 < u) (h1 : -4611686018427387904 ≤ v) (h2 : v ≤ 4611686018427387904) :
    Calls Try.prog 29 #[.int .i64 v, .int .i64 u] w fun e w' => e = .returned (.int .i64 (v / u)) ∧ w' = w := by
  have hs := tdiv_small v u hu h1 h2
  by_cases hm : v.tmod u < 0
  · go_enter Try.func29, Try.ntmps29
    go_wp2
    go_ret
    exact ⟨ret_int (floor_lo v u hu hm), rfl⟩
  · go_enter Try.func29, Try.ntmps29
    go_wp2
    go_ret
    exact ⟨ret_int (floor_hi v u hu (by omega)), rfl⟩

def absV (v : Int) : Int := if v < 0 then -v else v
theorem absV_bd (v : Int) : 0 ≤ absV v ∧ (absV v = v ∨ absV v = -v) := by unfold absV; split <;> omega

theorem withoutSign_calls (v : Int) (w : World) (h1 : -4611686018427387904 ≤ v) (h2 : v ≤ 4611686018427387904) :
    Calls Try.prog 28 #[.int .i64 v] w fun e w' => e = .returned (.int .i64 (absV v)) ∧ w' = w := by
  by_cases hm : v < 0
  · have hx : absV v = -v := if_pos hm
    have H : Hid (absV v = -v) := hx
    clear hx
    go_enter Try.func28, Try.ntmps28
    go_wp2
    go_ret
    exact ⟨ret_int H.out.symm, rfl⟩
  · have hx : absV v = v := if_neg hm
    have H : Hid (absV v = v) := hx
    clear hx
    go_enter Try.func28, Try.ntmps28
    go_wp2
    go_ret
    exact ⟨ret_int H.out.symm, rfl⟩

/-- The nearest whole number, halves away from 0. -/
def nearV (a b : Int) : Int := if a < 0 then -((2 * -a + b) / (2 * b)) else (2 * a + b) / (2 * b)
/-- The least one that is not below. -/
def ceilV (a b : Int) : Int := (a + b - 1) / b
def tenV (v : Int) : Int := (v + 512) / 1024

theorem ceil_neg (a b : Int) (hb : 0 < b) : -(-a / b) = ceilV a b := by
  unfold ceilV
  have h1 := Int.emod_nonneg (-a) (b := b) (by omega)
  have h2 := Int.emod_lt_of_pos (-a) hb
  have h3 := Int.mul_ediv_add_emod (-a) b
  refine (((Int.ediv_emod_unique (a := a + b - 1) (b := b) (r := b - 1 - (-a % b)) (q := -(-a / b)) hb).2 ⟨?_, by omega, by omega⟩).1).symm
  rw [Int.mul_neg]; omega

theorem div_le (a b : Int) (ha : 0 ≤ a) (hb : 0 < b) : 0 ≤ a / b ∧ a / b ≤ a :=
  ⟨Int.ediv_nonneg ha (by omega), Int.ediv_le_self b ha⟩

theorem ceilV_bd (a b : Int) (ha : 0 ≤ a) (hb : 0 < b) : 0 ≤ ceilV a b ∧ ceilV a b ≤ a + b - 1 := by
  unfold ceilV; exact div_le _ _ (by omega) hb


theorem near_calls (a b : Int) (w : World) (hb : 0 < b) (hb2 : b ≤ 33554432) (h1 : -1099511627776 ≤ a) (h2 : a ≤ 1099511627776) :
    Calls Try.prog 22 #[.int .i64 a, .int .i64 b] w fun e w' => e = .returned (.int .i64 (nearV a b)) ∧ w' = w := by
  have ha := absV_bd a
  have hd := div_le (2 * absV a + b) (2 * b) (by omega) (by omega)
  by_cases hm : a < 0
  · have H : Hid (-((2 * absV a + b) / (2 * b)) = nearV a b) := by unfold Hid nearV absV; rw [if_pos hm, if_pos hm]
    go_enter Try.func22, Try.ntmps22
    go_wp2_with (first | (go_at_call 29; refine (floor_calls _ _ _ (by omega) (by omega) (by omega)).mono ?_; rintro e w' ⟨rfl, rfl⟩) | (go_at_call 28; refine (withoutSign_calls _ _ (by omega) (by omega)).mono ?_; rintro e w' ⟨rfl, rfl⟩))
    go_ret
    exact ⟨ret_int H.out, rfl⟩
  · have H : Hid ((2 * absV a + b) / (2 * b) = nearV a b) := by unfold Hid nearV absV; rw [if_neg hm, if_neg hm]
    go_enter Try.func22, Try.ntmps22
    go_wp2_with (first | (go_at_call 29; refine (floor_calls _ _ _ (by omega) (by omega) (by omega)).mono ?_; rintro e w' ⟨rfl, rfl⟩) | (go_at_call 28; refine (withoutSign_calls _ _ (by omega) (by omega)).mono ?_; rintro e w' ⟨rfl, rfl⟩))
    go_ret
    exact ⟨ret_int H.out, rfl⟩


end Go.Proofs.Ytfmgdhpadamlkaa.Num

namespace Go.Proofs.Ytfmgdhpadamlkaa.Sli
open Go.ChangeShapes Go.WideShapes Go.ChangeAt Go.RowKit Go.Proofs.Ytfmgdhpadamlkaa.Num

theorem hid {p : Prop} (h : p) : Hid p := h

/-- The value v is a slice that holds the numbers xs. -/
def Sl (k : IntKind) (w : World) (v : Value) (xs : List Int) : Prop :=
  ∃ a cap, v = .slice a xs.length cap ∧ (xs ≠ [] → ∃ b off, a = some ⟨b, off, none⟩ ∧ b < w.heap.size ∧ ∀ i, i < xs.length → w.cell? ⟨b, off + i, none⟩ = some (.int k (xs.getD i 0)))

theorem Sl.later {k : IntKind} {w w' : World} {v : Value} {xs : List Int} (h : Sl k w v xs) (hb : Below w.heap.size w w') : Sl k w' v xs := by
  obtain ⟨a, cap, rfl, hc⟩ := h
  refine ⟨a, cap, rfl, fun hne => ?_⟩
  obtain ⟨b, off, rfl, hlt, hcell⟩ := hc hne
  refine ⟨b, off, rfl, Nat.lt_of_lt_of_le hlt hb.size, fun i hi => ?_⟩
  exact (hb.cell (p := ⟨b, off + i, none⟩) hlt).trans (hcell i hi)

theorem lt_of_cell {w : World} {a : Addr} {v : Value} (h : w.cell? a = some v) : a.block < w.heap.size := by
  by_cases hlt : a.block < w.heap.size
  · exact hlt
  · exfalso
    have e : w.heap[a.block]? = none := by simp; omega
    simp [World.cell?, e] at h

theorem sl_of_row {k : IntKind} {w : World} {a : Option Addr} {len cap : Nat} {zs : List Int}
    (h : (a = none ∧ len = 0 ∧ cap = 0 ∧ zs = []) ∨ ∃ x, a = some x ∧ len ≤ cap ∧ cap ≤ maxLen ∧ zs.length = cap ∧ (∀ i, i < zs.length → w.cell? (x.add i) = some (.int k (zs.getD i 0))) ∧ ∀ n ∈ zs, (Lit.int k n).wf = true) :
    Sl k w (.slice a len cap) (zs.take len) ∧ (zs.take len).length = len := by
  rcases h with ⟨rfl, rfl, rfl, rfl⟩ | ⟨x, rfl, hl, hm, hz, hcell, _⟩
  · exact ⟨⟨none, 0, rfl, fun h => absurd rfl h⟩, rfl⟩
  · have hlen : (zs.take len).length = len := by rw [List.length_take]; omega
    refine ⟨⟨some x, cap, by rw [hlen], fun hne => ?_⟩, hlen⟩
    have hpos : 0 < len := by
      rcases Nat.eq_zero_or_pos len with h | h
      · subst h; simp at hne
      · exact h
    obtain ⟨b, off, spot⟩ := x
    have hc := hcell 0 (by omega)
    have hspot : spot = none := by simpa [Addr.add] using World.cell?_spot hc
    subst hspot
    refine ⟨b, off, rfl, ?_, fun i hi => ?_⟩
    · have := lt_of_cell hc; simpa [Addr.add] using this
    · have h1 := hcell i (by omega)
      have e : (zs.take len).getD i 0 = zs.getD i 0 := by
        simp only [List.getD_eq_getElem?_getD]
        rw [List.getElem?_take_of_lt (by omega)]
      rw [e]
      by_cases hi0 : i = 0
      · subst hi0; simpa [Addr.add] using h1
      · simpa [Addr.add, hi0] using h1

theorem wf_of_row {k : IntKind} {w : World} {a : Option Addr} {len cap : Nat} {zs : List Int}
    (h : (a = none ∧ len = 0 ∧ cap = 0 ∧ zs = []) ∨ ∃ x, a = some x ∧ len ≤ cap ∧ cap ≤ maxLen ∧ zs.length = cap ∧ (∀ i, i < zs.length → w.cell? (x.add i) = some (.int k (zs.getD i 0))) ∧ ∀ n ∈ zs, (Lit.int k n).wf = true) :
    ∀ n ∈ zs.take len, (Lit.int k n).wf = true := by
  rcases h with ⟨rfl, rfl, rfl, rfl⟩ | ⟨x, rfl, hl, hm, hz, hcell, hwf⟩
  · intro n hn; simp at hn
  · intro n hn; exact hwf n (List.mem_of_mem_take hn)

theorem sl_of_own {k : IntKind} {w : World} {base e : Nat} {v : Value} {n : Nat} {xs : List Int} (h : w.ownsRow base e 1 v n (xs.map (Value.int k))) : Sl k w v xs ∧ xs.length = n := by
  have hn : xs.length = n := by have := h.1; simpa using this
  subst hn
  refine ⟨?_, rfl⟩
  rcases h.2 with ⟨hv, h0⟩ | ⟨g, cap, cur, hv, hg, hh, hr⟩
  · refine ⟨none, 0, by rw [hv, h0], fun hne => absurd (List.length_eq_zero_iff.1 h0) hne⟩
  · refine ⟨some ⟨g, 0, none⟩, cap, hv, fun hne => ⟨g, 0, rfl, ?_, fun i hi => ?_⟩⟩
    · rcases Nat.lt_or_ge g w.heap.size with h1 | h1
      · exact h1
      · have : w.heap[g]? = none := by simp; omega
        rw [this] at hh; cases hh
    · rw [hv] at h
      have := h.cellAt i (by omega)
      simp only [Nat.zero_add]
      rw [this]
      simp [hi]
end Go.Proofs.Ytfmgdhpadamlkaa.Sli

namespace Go.Proofs.Ytfmgdhpadamlkaa.Div
open Go.ChangeShapes Go.WideShapes Go.ChangeAt Go.RowKit Go.Proofs.Ytfmgdhpadamlkaa.Num

def topB (v : Int) : Bool := inB (-1099511627776) 1099511627776 v
def underB (v : Int) : Bool := inB 1 33554432 v
def rdOk (a b : Int) : Bool := topB a && underB b
def cdOk (a b : Int) : Bool := inB 0 1099511627776 a && underB b
def rdC (a b : Int) : Int := if rdOk a b = true then 0 else 3
def rdV (a b : Int) : Int := if rdOk a b = true then nearV a b else 0
def cdC (a b : Int) : Int := if cdOk a b = true then 0 else 3
def cdV (a b : Int) : Int := if cdOk a b = true then ceilV a b else 0
def teC (v : Int) : Int := if topB v = true then 0 else 3
def teV (v : Int) : Int := if topB v = true then tenV v else 0

theorem ret_two {c v c' v' : Int} (h1 : c = c') (h2 : v = v') : Ending.returned (.agg #[.int .i64 c, .int .i64 v]) = .returned (.agg #[.int .i64 c', .int .i64 v']) := by rw [h1, h2]

theorem rd_yes {a b : Int} (h1 : topB a = true) (h2 : underB b = true) : 0 = rdC a b ∧ nearV a b = rdV a b := by
  unfold rdC rdV rdOk; simp [h1, h2]
theorem rd_no1 {a b : Int} (h1 : topB a = false) : 3 = rdC a b ∧ 0 = rdV a b := by
  unfold rdC rdV rdOk; simp [h1]
theorem rd_no2 {a b : Int} (h2 : underB b = false) : 3 = rdC a b ∧ 0 = rdV a b := by
  unfold rdC rdV rdOk; simp [h2]
theorem cd_yes {a b : Int} (h1 : inB 0 1099511627776 a = true) (h2 : underB b = true) : 0 = cdC a b ∧ ceilV a b = cdV a b := by
  unfold cdC cdV cdOk; simp [h1, h2]
theorem cd_no1 {a b : Int} (h1 : inB 0 1099511627776 a = false) : 3 = cdC a b ∧ 0 = cdV a b := by
  unfold cdC cdV cdOk; simp [h1]
theorem cd_no2 {a b : Int} (h2 : underB b = false) : 3 = cdC a b ∧ 0 = cdV a b := by
  unfold cdC cdV cdOk; simp [h2]
theorem te_yes {v : Int} (h : topB v = true) : 0 = teC v ∧ tenV v = teV v := by
  unfold teC teV; simp [h]
theorem te_no {v : Int} (h : topB v = false) : 3 = teC v ∧ 0 = teV v := by
  unfold teC teV; simp [h]




theorem l1In_calls (v lo hi : Int) (w : World) :
    Calls Try.prog 19 #[.int .i64 v, .int .i64 lo, .int .i64 hi] w fun e w' => e = .returned (.bool (inB lo hi v)) ∧ w' = w := by
  by_cases h1 : lo ≤ v
  · by_cases h2 : v ≤ hi
    · have H : Hid (true = inB lo hi v) := (inB_yes h1 h2).symm
      go_enter Try.func19, Try.ntmps19
      go_wp2
      go_ret
      exact ⟨ret_bool H.out, rfl⟩
    · have H : Hid (false = inB lo hi v) := (inB_no (by omega)).symm
      go_enter Try.func19, Try.ntmps19
      go_wp2
      go_ret
      exact ⟨ret_bool H.out, rfl⟩
  · have H : Hid (false = inB lo hi v) := (inB_no (by omega)).symm
    go_enter Try.func19, Try.ntmps19
    go_wp2
    go_ret
    exact ⟨ret_bool H.out, rfl⟩



theorem l1Round_pos (a b : Int) (w : World) (hb : 0 < b) (hb2 : b ≤ 33554432) (h1 : 0 ≤ a) (h2 : a ≤ 1099511627776) :
    Calls Try.prog 26 #[.int .i64 a, .int .i64 b] w fun e w' => e = .returned (.int .i64 (nearV a b)) ∧ w' = w := by
  have hd := div_le (2 * a + b) (2 * b) (by omega) (by omega)
  have H : Hid ((2 * a + b) / (2 * b) = nearV a b) := by unfold Hid nearV; rw [if_neg (by omega)]
  go_enter Try.func26, Try.ntmps26
  go_wp2
  go_ret
  exact ⟨ret_int H.out, rfl⟩

theorem near_bd (a b : Int) (hb : 0 < b) (hb2 : b ≤ 33554432) (h1 : 0 ≤ a) (h2 : a ≤ 1099511627776) : 0 ≤ nearV a b ∧ nearV a b ≤ 2199056809984 := by
  unfold nearV; rw [if_neg (by omega)]
  have hd := div_le (2 * a + b) (2 * b) (by omega) (by omega)
  omega

theorem near_flip (a b : Int) (h : a < 0) : -nearV (-a) b = nearV a b := by
  unfold nearV; rw [if_neg (by omega), if_pos h]

theorem l1Round_calls (a b : Int) (w : World) (hb : 0 < b) (hb2 : b ≤ 33554432) (h1 : -1099511627776 ≤ a) (h2 : a ≤ 1099511627776) :
    Calls Try.prog 26 #[.int .i64 a, .int .i64 b] w fun e w' => e = .returned (.int .i64 (nearV a b)) ∧ w' = w := by
  by_cases hm : a < 0
  · have hd := near_bd (-a) b hb hb2 (by omega) (by omega)
    have H : Hid (-nearV (-a) b = nearV a b) := near_flip a b hm
    go_enter Try.func26, Try.ntmps26
    go_wp2_with (go_at_call 26; refine (l1Round_pos _ _ _ hb hb2 (by omega) (by omega)).mono ?_; rintro e w' ⟨rfl, rfl⟩)
    go_ret
    exact ⟨ret_int H.out, rfl⟩
  · exact l1Round_pos a b w hb hb2 (by omega) h2

theorem floor_flip (a b : Int) (hb : 0 < b) : -ceilV (-a) b = a / b := by
  rw [← ceil_neg (-a) b hb, Int.neg_neg, Int.neg_neg]







end Go.Proofs.Ytfmgdhpadamlkaa.Div

namespace Go.Proofs.Ytfmgdhpadamlkaa.App
open Go.ChangeShapes Go.WideShapes Go.ChangeAt Go.RowKit Go.Proofs.Ytfmgdhpadamlkaa.Num Go.Proofs.Ytfmgdhpadamlkaa.Sli

/-- The value v is a slice that holds the numbers xs, in a block below B. -/
def Sb (k : IntKind) (B : Nat) (w : World) (v : Value) (xs : List Int) : Prop :=
  ∃ a cap, v = .slice a xs.length cap ∧ (xs ≠ [] → ∃ b off, a = some ⟨b, off, none⟩ ∧ b < B ∧ ∀ i, i < xs.length → w.cell? ⟨b, off + i, none⟩ = some (.int k (xs.getD i 0)))
theorem Sb.of {k : IntKind} {w : World} {v : Value} {xs : List Int} (h : Sl k w v xs) : Sb k w.heap.size w v xs := h
theorem Sb.keep {k : IntKind} {B : Nat} {w w' : World} {v : Value} {xs : List Int} (h : Sb k B w v xs) (hb : Below B w w') : Sb k B w' v xs := by
  obtain ⟨a, cap, rfl, hc⟩ := h
  refine ⟨a, cap, rfl, fun hne => ?_⟩
  obtain ⟨b, off, rfl, hlt, hcell⟩ := hc hne
  exact ⟨b, off, rfl, hlt, fun i hi => (hb.cell (p := ⟨b, off + i, none⟩) hlt).trans (hcell i hi)⟩
theorem Sb.sl {k : IntKind} {B : Nat} {w : World} {v : Value} {xs : List Int} (h : Sb k B w v xs) (hB : B ≤ w.heap.size) : Sl k w v xs := by
  obtain ⟨a, cap, rfl, hc⟩ := h
  refine ⟨a, cap, rfl, fun hne => ?_⟩
  obtain ⟨b, off, rfl, hlt, hcell⟩ := hc hne
  exact ⟨b, off, rfl, by omega, hcell⟩

/-- The value v is a slice of the call's own, from block base on, that holds the numbers ys (t: the element's type). -/
def Ow (k : IntKind) (t base : Nat) (w : World) (v : Value) (ys : List Int) : Prop :=
  w.ownsRow base t 1 v ys.length (ys.map (Value.int k))
theorem Ow.sl {k : IntKind} {t base : Nat} {w : World} {v : Value} {ys : List Int} (h : Ow k t base w v ys) : Sl k w v ys := (sl_of_own h).1
theorem Ow.kept {k : IntKind} {t base : Nat} {w w' : World} {v : Value} {ys : List Int} {row : Option Nat} (h : Ow k t base w v ys) (hg : w.grownBy w' row) (hr : ∀ j, row = some j → j < base) : Ow k t base w' v ys := by
  have h' : w.ownsRow base t 1 v ys.length (ys.map (Value.int k)) := h
  refine h'.kept hg ?_
  cases hv : v.ownBlock with
  | none => exact Or.inl rfl
  | some j =>
    right
    intro e
    have := (h'.lt j hv).1
    have := hr j e.symm
    omega
theorem Ow.later {k : IntKind} {t base : Nat} {w w' : World} {v : Value} {ys : List Int} (h : Ow k t base w v ys) (hb : Below w.heap.size w w') : Ow k t base w' v ys := by
  have h' : w.ownsRow base t 1 v ys.length (ys.map (Value.int k)) := h
  exact h'.kept (row := none) ⟨hb.os, hb.tape, hb.output, hb.size, fun j hj _ => hb.block j hj⟩ (by cases v.ownBlock <;> simp)
theorem Ow.block {k : IntKind} {t base : Nat} {w : World} {v : Value} {ys : List Int} (h : Ow k t base w v ys) : ∀ j, v.ownBlock = some j → base ≤ j ∧ j < w.heap.size := by
  have h' : w.ownsRow base t 1 v ys.length (ys.map (Value.int k)) := h
  exact h'.lt
theorem Ow.mono {k : IntKind} {t base base' : Nat} {w : World} {v : Value} {ys : List Int} (h : Ow k t base w v ys) (hb : base' ≤ base) : Ow k t base' w v ys :=
  ⟨h.1, h.2.imp id fun ⟨g, cap, cur, hv, hg, hr⟩ => ⟨g, cap, cur, hv, Nat.le_trans hb hg, hr⟩⟩
theorem Ow.alloc {k : IntKind} {t base : Nat} {w : World} {v : Value} {ys : List Int} (h : Ow k t base w v ys) (o : Obj) : Ow k t base (w.alloc o) v ys := h.later (bmore (Below.refl _ _) o)

theorem below_of_grown {w w' : World} {row : Option Nat} {B : Nat} (hg : w.grownBy w' row) (hB : B ≤ w.heap.size) (hr : ∀ j, row = some j → B ≤ j) : Below B w w' := (Below.refl _ _).grown hg hB hr

theorem run_append_zero {P : Program} (w : World) (t ty e : TypeId) (i : TypeInfo) (ht : P.underlying t = some (.slice e)) (hi : P.info? e = some i) (ad : Addr) (n cap : Nat) (hle : n ≤ cap) (a : Option Addr) (c : Nat) :
    (Builtin.append_ #[t, t] ty #[.slice (some ad) n cap, .slice a 0 c]).run P w = .ok (.slice (some ad) n cap) w := by
  cases a <;> simp [Builtin.append_, run_underlying ht, sizeOf, typeInfo, hi, Builtin.lenOf, Builtin.firstCells, loadCells, loadCellsFrom, hle, storeCells]

theorem wpList_append_sl {P : Program} (w : World) {ops : Array Oper} {rest : List Oper} {o : Oper} {a : Act} {Q : Exit → Act → World → Prop} (hgd : o.guard = none) (s x : Operand) (t : TypeId)
    (ho : o.op = .call { callee := .builtin .append, args := #[s, x], argTypes := #[t, t] })
    (base : Nat) (e : TypeId) (i : TypeInfo) (k : IntKind) (z : Int) (bytes : Nat) (ht : P.underlying t = some (.slice e)) (hi : P.info? e = some i) (hz : i.zero = some (.int k z))
    (hsize : i.size = 1) (hby : i.bytes = bytes) (hb8 : bytes ≤ 8)
    (g0 n cap0 : Nat) (ys : List Int) (hs : a.eval s = .slice (some ⟨g0, 0, none⟩) n cap0) (hn : n = ys.length) (hown : Ow k e base w (.slice (some ⟨g0, 0, none⟩) ys.length cap0) ys)
    (vx : Value) (xs : List Int) (hx : a.eval x = vx) (hsl : Sl k w vx xs) (hlen : ys.length + xs.length ≤ 10000000) (hbase : base ≤ w.heap.size)
    (h : ∀ g cap w', Ow k e base w' (.slice (some ⟨g, 0, none⟩) (ys.length + xs.length) cap) (ys ++ xs) → w.grownBy w' (some g0) → g < w'.heap.size → wpList P ops Q rest (a.put o.dst (.slice (some ⟨g, 0, none⟩) (ys.length + xs.length) cap)) w') : wpList P ops Q (o :: rest) a w := by
  subst hn
  obtain ⟨ax, cx, rfl, hc⟩ := hsl
  by_cases hne : xs = []
  · subst hne
    refine wpList_plain hgd fun K hK => ?_
    have hle : ys.length ≤ cap0 := by
      rcases hown.2 with ⟨hv, _⟩ | ⟨g', cap', cur, hv, _, _, hr, _⟩
      · cases hv
      · simp at hv; omega
    have hx' : a.eval x = .slice ax 0 cx := hx
    have hrun := run_append_zero (P := P) w t o.type e i ht hi ⟨g0, 0, none⟩ ys.length cap0 hle ax cx
    have hlt := (hown.block g0 rfl).2
    have := h g0 cap0 w (by simpa using hown) ⟨rfl, rfl, rfl, Nat.le_refl _, fun _ _ _ => rfl⟩ hlt
    unfold Oper.wp
    simp [execOp, ho, resolve, invoke, builtin, hs, hx', hrun, Result.andThen]
    exact hK _ _ (by simpa using this)
  · obtain ⟨b, off, rfl, hlt, hcell⟩ := hc hne
    have hpos : 0 < xs.length := by cases xs with | nil => exact absurd rfl hne | cons _ _ => simp
    have hown' : w.ownsRow base e 1 (.slice (some ⟨g0, 0, none⟩) ys.length cap0) ys.length (ys.map (Value.int k)) := hown
    refine wpList_append_lies w hgd s x t ho base e i (.int k z) 1 bytes ht hi hz hsize hby rfl (by decide) _ ys.length _ hs hown' ⟨b, off, none⟩ xs.length cx (xs.map (Value.int k)) hx (by simp) ?_ ?_ hpos ?_ ?_ hbase _ rfl ?_
    · intro j u hj
      rw [List.getElem?_map] at hj
      rcases hxj : xs[j]? with _ | y
      · rw [hxj] at hj; cases hj
      · rw [hxj] at hj; simp at hj; subst hj
        have hjl : j < xs.length := by rcases Nat.lt_or_ge j xs.length with h1 | h1; exact h1; rw [List.getElem?_eq_none h1] at hxj; cases hxj
        have hc1 := hcell j hjl
        have e1 : xs.getD j 0 = y := by rw [List.getD_eq_getElem?_getD, hxj, Option.getD_some]
        rw [e1] at hc1
        have e2 : (⟨b, off, none⟩ : Addr).add j = ⟨b, off + j, none⟩ := by
          by_cases hj0 : j = 0
          · subst hj0; simp [Addr.add]
          · simp [Addr.add, hj0]
        rw [e2]; exact hc1
    · intro u hu
      simp at hu
      obtain ⟨y, _, rfl⟩ := hu
      rfl
    · unfold maxLen; omega
    · calc (ys.length + xs.length) * bytes ≤ 10000000 * 8 := Nat.mul_le_mul hlen hb8
        _ ≤ _ := by omega
    · intro g cap w' h1 h2 _ h4
      refine h g cap w' ?_ h2 h4
      unfold Ow
      rw [List.map_append, List.length_append]
      exact h1

/-- A new empty slice. -/
theorem ow_new (k : IntKind) (t base : Nat) (w : World) (hb : base ≤ w.heap.size) : Ow k t base (w.alloc (.cells #[] t)) (.slice (some ⟨w.heap.size, 0, none⟩) 0 0) [] :=
  ⟨rfl, Or.inr ⟨w.heap.size, 0, #[], rfl, hb, heap_alloc_new w _, Nat.le_refl _, by unfold maxLen; omega, rfl, rfl⟩⟩
/-- The values that are written out in a block of their own. -/
theorem sl_lit (k : IntKind) (w : World) (t : TypeId) (xs : List Int) (cs : Array Value) (n : Nat) (hcs : cs = (xs.map (Value.int k)).toArray) (hn : xs.length = n) : Sl k (w.alloc (.cells cs t)) (.slice (some ⟨w.heap.size, 0, none⟩) n n) xs := by
  subst hcs hn
  refine ⟨some ⟨w.heap.size, 0, none⟩, xs.length, rfl, fun _ => ⟨w.heap.size, 0, rfl, by simp, fun i hi => ?_⟩⟩
  rw [cell_of_row _ w.heap.size (0 + i) _ t (0, 0) (heap_alloc_new w _)]
  simp [hi]
theorem Ow.cellAt {k : IntKind} {t base : Nat} {w : World} {g cap n : Nat} {ys : List Int} (h : Ow k t base w (.slice (some ⟨g, 0, none⟩) n cap) ys) (hn : n = ys.length) (i : Nat) (hi : i < ys.length) : w.cell? ⟨g, i, none⟩ = some (.int k (ys.getD i 0)) ∧ w.frozen? ⟨g, i, none⟩ = false := by
  subst hn
  have h' : w.ownsRow base t 1 (.slice (some ⟨g, 0, none⟩) ys.length cap) ys.length (ys.map (Value.int k)) := h
  refine ⟨?_, h'.frozenAt i⟩
  rw [h'.cellAt i (by omega)]
  simp [hi]
theorem Ow.set {k : IntKind} {t base : Nat} {w : World} {g cap n : Nat} {ys : List Int} (h : Ow k t base w (.slice (some ⟨g, 0, none⟩) n cap) ys) (hn : n = ys.length) (i : Nat) (x : Int) : Ow k t base (w.setCell ⟨g, i, none⟩ (.int k x)) (.slice (some ⟨g, 0, none⟩) n cap) (ys.set i x) ∧ w.grownBy (w.setCell ⟨g, i, none⟩ (.int k x)) (some g) := by
  subst hn
  have h' : w.ownsRow base t 1 (.slice (some ⟨g, 0, none⟩) ys.length cap) ys.length (ys.map (Value.int k)) := h
  have := h'.stored i (.int k x)
  refine ⟨?_, this.2⟩
  unfold Ow
  rw [List.length_set, List.map_set]
  exact this.1
theorem grown_refl (w : World) (r : Option Nat) : w.grownBy w r := ⟨rfl, rfl, rfl, Nat.le_refl _, fun _ _ _ => rfl⟩
theorem grown_same {w a b : World} {r : Option Nat} (h : w.grownBy a r) (k : a.grownBy b r) : w.grownBy b r :=
  ⟨k.os.trans h.os, k.tape.trans h.tape, k.output.trans h.output, Nat.le_trans h.size k.size, fun j hj hne => (k.block j (Nat.lt_of_lt_of_le hj h.size) hne).trans (h.block j hj hne)⟩
/-- A slice that is no longer than its room. -/
def Fits : Value → Prop
  | .slice _ n c => n ≤ c
  | _ => True
theorem Ow.fits {k : IntKind} {t base : Nat} {w : World} {v : Value} {ys : List Int} (h : Ow k t base w v ys) : Fits v := by
  rcases h.2 with ⟨rfl, _⟩ | ⟨g, cap, cur, rfl, _, _, hr, _⟩
  · exact Nat.le_refl _
  · exact hr
theorem grown_set (w : World) (R o : Nat) (u : Value) : w.grownBy (w.setCell ⟨R, o, none⟩ u) (some R) :=
  ⟨rfl, rfl, rfl, by simp [World.setCell], fun _ _ hne => Below.heap_setCell _ _ _ _ (fun e => hne (by rw [e]))⟩
/-- Behind an answer that is stored into block R, the first of the call's own. -/
theorem Ow.set2 {k : IntKind} {t R : Nat} {w : World} {v : Value} {ys : List Int} (h : Ow k t (R + 1) w v ys) (x y : Value) : Ow k t R ((w.setCell ⟨R, 0, none⟩ x).setCell ⟨R, 1, none⟩ y) v ys :=
  ((h.kept (grown_set w R 0 x) (fun j e => by cases e; omega)).kept (grown_set _ R 1 y) (fun j e => by cases e; omega)).mono (by omega)
theorem below_set2 {R : Nat} {a w : World} (h : Below R a w) (x y : Value) : Below R a ((w.setCell ⟨R, 0, none⟩ x).setCell ⟨R, 1, none⟩ y) :=
  (h.setCell (p := ⟨R, 0, none⟩) (Nat.le_refl _) _).setCell (p := ⟨R, 1, none⟩) (Nat.le_refl _) _
end Go.Proofs.Ytfmgdhpadamlkaa.App

namespace Go.Proofs.Ytfmgdhpadamlkaa.Blk
open Go.ChangeShapes Go.WideShapes Go.ChangeAt Go.RowKit Go.Proofs.Ytfmgdhpadamlkaa.Num Go.Proofs.Ytfmgdhpadamlkaa.Sli Go.Proofs.Ytfmgdhpadamlkaa.App

/-- Block b holds just these cells. -/
def Blk (w : World) (b : Nat) (vs : Array Value) (t : TypeId) : Prop := w.heap[b]? = some (.cells vs t (0, 0))
theorem Blk.lt {w : World} {b : Nat} {vs : Array Value} {t : TypeId} (h : Blk w b vs t) : b < w.heap.size := (Array.getElem?_eq_some_iff.1 h).1
theorem Blk.cell {w : World} {b : Nat} {vs : Array Value} {t : TypeId} (h : Blk w b vs t) (i : Nat) : w.cell? ⟨b, i, none⟩ = vs[i]? := by simp [World.cell?, show w.heap[b]? = _ from h]
theorem Blk.frozen {w : World} {b : Nat} {vs : Array Value} {t : TypeId} (h : Blk w b vs t) (i : Nat) : w.frozen? ⟨b, i, none⟩ = false := by simp [World.frozen?, show w.heap[b]? = _ from h]
theorem Blk.new (w : World) (vs : Array Value) (t : TypeId) : Blk (w.alloc (.cells vs t)) w.heap.size vs t := World.alloc_heap_new w _
theorem Blk.below {w w' : World} {b n : Nat} {vs : Array Value} {t : TypeId} (h : Blk w b vs t) (hb : Below n w w') (hn : b < n) : Blk w' b vs t := (hb.block b hn).trans h
theorem Blk.later {w w' : World} {b : Nat} {vs : Array Value} {t : TypeId} (h : Blk w b vs t) (hb : Below w.heap.size w w') : Blk w' b vs t := h.below hb h.lt
theorem Blk.kept {w w' : World} {row : Option Nat} {b : Nat} {vs : Array Value} {t : TypeId} (h : Blk w b vs t) (hg : w.grownBy w' row) (hne : row ≠ some b) : Blk w' b vs t := (hg.block b h.lt (fun e => hne e.symm)).trans h
theorem Blk.alloc {w : World} {b : Nat} {vs : Array Value} {t : TypeId} (h : Blk w b vs t) (o : Obj) : Blk (w.alloc o) b vs t := h.later (bmore (Below.refl _ _) o)
theorem Blk.drew {w : World} {b : Nat} {vs : Array Value} {t : TypeId} (h : Blk w b vs t) (n : Nat) : Blk (w.drewN n) b vs t := h
theorem Blk.put {w : World} {b : Nat} {vs : Array Value} {t : TypeId} (h : Blk w b vs t) {l : Nat} {o : Obj} (hl : w.heap[l]? = some o) (ho : o.isCells = false) (o' : Obj) : Blk (w.putObj l o') b vs t := by
  refine (World.putObj_heap_other ?_).trans h
  rintro rfl
  rw [show w.heap[b]? = _ from h] at hl
  cases hl; cases ho
theorem Blk.set {w : World} {b : Nat} {vs : Array Value} {t : TypeId} (h : Blk w b vs t) (i : Nat) (v : Value) : Blk (w.setCell ⟨b, i, none⟩ v) b (vs.setIfInBounds i v) t := by
  obtain ⟨hlt, hk⟩ := Array.getElem?_eq_some_iff.1 h
  show (w.heap.modify b _)[b]? = _
  rw [Array.getElem?_eq_getElem (by rw [Array.size_modify]; exact hlt), Array.getElem_modify_self, hk]
  rfl
theorem Blk.other {w : World} {b : Nat} {vs : Array Value} {t : TypeId} (h : Blk w b vs t) {b' : Nat} (hne : b' ≠ b) (i : Nat) (v : Value) : Blk (w.setCell ⟨b', i, none⟩ v) b vs t :=
  (Below.heap_setCell w ⟨b', i, none⟩ v b (fun e => hne e.symm)).trans h
theorem Blk.two {w : World} {b : Nat} {v0 v1 : Value} {t : TypeId} (h : Blk w b #[v0, v1] t) :
    w.cell? ⟨b, 0, none⟩ = some v0 ∧ w.cell? ⟨b, 1, none⟩ = some v1 ∧ w.frozen? ⟨b, 0, none⟩ = false ∧ w.frozen? ⟨b, 1, none⟩ = false :=
  ⟨h.cell 0, h.cell 1, h.frozen 0, h.frozen 1⟩
theorem Blk.three {w : World} {b : Nat} {v0 v1 v2 : Value} {t : TypeId} (h : Blk w b #[v0, v1, v2] t) :
    w.cell? ⟨b, 0, none⟩ = some v0 ∧ w.cell? ⟨b, 1, none⟩ = some v1 ∧ w.cell? ⟨b, 2, none⟩ = some v2 ∧ w.frozen? ⟨b, 0, none⟩ = false ∧ w.frozen? ⟨b, 1, none⟩ = false ∧ w.frozen? ⟨b, 2, none⟩ = false :=
  ⟨h.cell 0, h.cell 1, h.cell 2, h.frozen 0, h.frozen 1, h.frozen 2⟩
theorem Blk.four {w : World} {b : Nat} {v0 v1 v2 v3 : Value} {t : TypeId} (h : Blk w b #[v0, v1, v2, v3] t) :
    w.cell? ⟨b, 0, none⟩ = some v0 ∧ w.cell? ⟨b, 1, none⟩ = some v1 ∧ w.cell? ⟨b, 2, none⟩ = some v2 ∧ w.cell? ⟨b, 3, none⟩ = some v3 ∧ w.frozen? ⟨b, 0, none⟩ = false ∧ w.frozen? ⟨b, 1, none⟩ = false ∧ w.frozen? ⟨b, 2, none⟩ = false ∧ w.frozen? ⟨b, 3, none⟩ = false :=
  ⟨h.cell 0, h.cell 1, h.cell 2, h.cell 3, h.frozen 0, h.frozen 1, h.frozen 2, h.frozen 3⟩
theorem Blk.five {w : World} {b : Nat} {v0 v1 v2 v3 v4 : Value} {t : TypeId} (h : Blk w b #[v0, v1, v2, v3, v4] t) :
    w.cell? ⟨b, 0, none⟩ = some v0 ∧ w.cell? ⟨b, 1, none⟩ = some v1 ∧ w.cell? ⟨b, 2, none⟩ = some v2 ∧ w.cell? ⟨b, 3, none⟩ = some v3 ∧ w.cell? ⟨b, 4, none⟩ = some v4 ∧ w.frozen? ⟨b, 0, none⟩ = false ∧ w.frozen? ⟨b, 1, none⟩ = false ∧ w.frozen? ⟨b, 2, none⟩ = false ∧ w.frozen? ⟨b, 3, none⟩ = false ∧ w.frozen? ⟨b, 4, none⟩ = false :=
  ⟨h.cell 0, h.cell 1, h.cell 2, h.cell 3, h.cell 4, h.frozen 0, h.frozen 1, h.frozen 2, h.frozen 3, h.frozen 4⟩
/-- Two boxes at a function's beginning, behind a call. -/
theorem boxes2 {w w' : World} {A B : Array Value} {t u : TypeId} (hb : Below ((w.alloc (.cells A t)).alloc (.cells B u)).heap.size ((w.alloc (.cells A t)).alloc (.cells B u)) w') :
    Blk w' w.heap.size A t ∧ Blk w' (w.heap.size + 1) B u ∧ Below w.heap.size w w' ∧ w.heap.size + 2 ≤ w'.heap.size := by
  refine ⟨((Blk.new w A t).alloc _).later hb, ?_, bthen (bmore (bmore (Below.refl _ w) _) _) hb, ?_⟩
  · have := (Blk.new (w.alloc (.cells A t)) B u).later hb
    rwa [World.size_alloc] at this
  · have := hb.size; simpa using this
theorem boxes3 {w w' : World} {A B C : Array Value} {t u s : TypeId} (hb : Below (((w.alloc (.cells A t)).alloc (.cells B u)).alloc (.cells C s)).heap.size (((w.alloc (.cells A t)).alloc (.cells B u)).alloc (.cells C s)) w') :
    Blk w' w.heap.size A t ∧ Blk w' (w.heap.size + 1) B u ∧ Blk w' (w.heap.size + 1 + 1) C s ∧ Below w.heap.size w w' ∧ w.heap.size + 3 ≤ w'.heap.size := by
  refine ⟨(((Blk.new w A t).alloc _).alloc _).later hb, ?_, ?_, bthen (bmore (bmore (bmore (Below.refl _ w) _) _) _) hb, ?_⟩
  · have := ((Blk.new (w.alloc (.cells A t)) B u).alloc (.cells C s)).later hb
    rwa [World.size_alloc] at this
  · have := (Blk.new ((w.alloc (.cells A t)).alloc (.cells B u)) C s).later hb
    rwa [World.size_alloc, World.size_alloc] at this
  · have := hb.size; simpa using this
theorem below_cell {n : Nat} {a w : World} (h : Below n a w) {b : Nat} (hb : n ≤ b) (i : Nat) (v : Value) : Below n a (w.setCell ⟨b, i, none⟩ v) := h.setCell (p := ⟨b, i, none⟩) hb v
end Go.Proofs.Ytfmgdhpadamlkaa.Blk

namespace Go.Proofs.Ytfmgdhpadamlkaa.ToInt
open Go.ChangeShapes Go.WideShapes Go.ChangeAt Go.RowKit Go.Proofs.Ytfmgdhpadamlkaa.Num Go.Proofs.Ytfmgdhpadamlkaa.Sli


end Go.Proofs.Ytfmgdhpadamlkaa.ToInt

namespace Go.Proofs.Ytfmgdhpadamlkaa.IntL
open Go.ChangeShapes Go.WideShapes Go.ChangeAt Go.RowKit Go.Proofs.Ytfmgdhpadamlkaa.Num Go.Proofs.Ytfmgdhpadamlkaa.Sli Go.Proofs.Ytfmgdhpadamlkaa.App

theorem infoI : (Try.prog.info? 2).map (fun i => (i.zero, i.size, i.bytes)) = some (some (.int .i64 0), 1, 8) := by kernel_rfl
/-- An owned list of numbers. -/
abbrev OwI (base : Nat) (w : World) (v : Value) (ys : List Int) : Prop := Ow .i64 2 base w v ys



/-- The marks that are written: the numbers from k on, as bytes. -/
def marks (k n : Nat) : List Int := (List.range n).map fun i => ((k + i : Nat) : Int)
theorem marks_len (k n : Nat) : (marks k n).length = n := by simp [marks]
theorem marks_get (k n i : Nat) (h : i < n) : (marks k n).getD i 0 = ((k + i : Nat) : Int) := by simp [marks, h]
/-- What a list holds once i marks are written into it. -/
def marked (k : Nat) (xs : List Int) (i : Nat) : List Int := marks k i ++ xs.drop i
theorem marked_len (k : Nat) (xs : List Int) (i : Nat) (h : i ≤ xs.length) : (marked k xs i).length = xs.length := by simp [marked, marks_len]; omega
theorem marked_all (k : Nat) (xs : List Int) : marked k xs xs.length = marks k xs.length := by simp [marked]
theorem marked_set (k : Nat) (xs : List Int) (i : Nat) (h : i < xs.length) : (marked k xs i).set i (((k + i : Nat) : Int)) = marked k xs (i + 1) := by
  apply List.ext_getElem
  · rw [List.length_set, marked_len _ _ _ (by omega), marked_len _ _ _ (by omega)]
  · intro j h1 h2
    simp only [marked, marks, List.getElem_set, List.getElem_append, List.length_map, List.length_range, List.getElem_map, List.getElem_range, List.getElem_drop]
    by_cases e : i = j
    · subst e; simp
    · simp only [e, if_false]
      by_cases hj : j < i
      · simp [hj, show j < i + 1 by omega]
      · simp only [hj, show ¬ j < i + 1 by omega, dite_false]
        congr 1; omega





end Go.Proofs.Ytfmgdhpadamlkaa.IntL

namespace Go.Proofs.Ytfmgdhpadamlkaa.IntA
open Go.ChangeShapes Go.WideShapes Go.ChangeAt Go.RowKit Go.Proofs.Ytfmgdhpadamlkaa.Num Go.Proofs.Ytfmgdhpadamlkaa.Sli Go.Proofs.Ytfmgdhpadamlkaa.App Go.Proofs.Ytfmgdhpadamlkaa.Div Go.Proofs.Ytfmgdhpadamlkaa.IntL

/-- Numbers are appended. -/
theorem wpList_append_ints (w : World) {ops : Array Oper} {rest : List Oper} {o : Oper} {a : Act} {Q : Exit → Act → World → Prop} (hgd : o.guard = none) (s x : Operand)
    (ho : o.op = .call { callee := .builtin .append, args := #[s, x], argTypes := #[24, 24] })
    (base : Nat) (v : Value) (ys : List Int) (hs : a.eval s = v) (hown : OwI base w v ys)
    (vx : Value) (xs : List Int) (hx : a.eval x = vx) (hsl : Sl .i64 w vx xs) (hne : xs ≠ []) (hlen : ys.length + xs.length ≤ 1000000) (hbase : base ≤ w.heap.size)
    (h : ∀ g cap n w', n = (ys ++ xs).length → OwI base w' (.slice (some ⟨g, 0, none⟩) n cap) (ys ++ xs) → w.grownBy w' v.ownBlock → (v.ownBlock = some g ∨ g = w.heap.size) → wpList Try.prog ops Q rest (a.put o.dst (.slice (some ⟨g, 0, none⟩) n cap)) w') : wpList Try.prog ops Q (o :: rest) a w := by
  obtain ⟨i0, hi, hz0, hz1, hz2⟩ := info_parts infoI
  obtain ⟨ax, cx, rfl, hc⟩ := hsl
  obtain ⟨b, off, rfl, hlt, hcell⟩ := hc hne
  have hpos : 0 < xs.length := by cases xs with | nil => exact absurd rfl hne | cons _ _ => simp
  have hown' : w.ownsRow base 2 1 v ys.length (ys.map (Value.int .i64)) := hown
  refine wpList_append_lies w hgd s x 24 ho base 2 i0 (.int .i64 0) 1 8 Try.underlying24 hi hz0 hz1 hz2 rfl (by decide) v ys.length _ hs hown' ⟨b, off, none⟩ xs.length cx (xs.map (Value.int .i64)) hx (by simp) ?_ ?_ hpos (by rw [show maxLen = 9223372036854775807 by decide]; omega) (by omega) hbase w.heap.size rfl ?_
  · intro j u hj
    rw [List.getElem?_map] at hj
    rcases hxj : xs[j]? with _ | y
    · rw [hxj] at hj; cases hj
    · rw [hxj] at hj; simp at hj; subst hj
      have hjl : j < xs.length := by rcases Nat.lt_or_ge j xs.length with h1 | h1; exact h1; rw [List.getElem?_eq_none h1] at hxj; cases hxj
      have hc1 := hcell j hjl
      rw [List.getD_eq_getElem?_getD, hxj, Option.getD_some] at hc1
      rw [Addr.add_lit]; exact hc1
  · intro u hu
    simp at hu
    obtain ⟨y, _, rfl⟩ := hu
    rfl
  · intro g cap w' h1 h2 h3 _
    have e : ys.length + xs.length = (ys ++ xs).length := by rw [List.length_append]
    refine h g cap _ w' e ?_ h2 h3
    show World.ownsRow _ _ _ _ _ (ys ++ xs).length ((ys ++ xs).map (Value.int .i64))
    rw [List.map_append, ← e]
    exact h1
/-- A list stays while another block turns. -/
theorem Ow.keptNe {k : IntKind} {t base : Nat} {w w' : World} {v : Value} {ys : List Int} {row : Option Nat} (h : Ow k t base w v ys) (hg : w.grownBy w' row) (hr : ∀ j, row = some j → v.ownBlock ≠ some j) : Ow k t base w' v ys := by
  have h' : w.ownsRow base t 1 v ys.length (ys.map (Value.int k)) := h
  refine h'.kept hg ?_
  cases hv : v.ownBlock with
  | none => exact Or.inl rfl
  | some j =>
    right
    intro e
    exact hr j e.symm hv
theorem all_not {B : Int → Bool} {vs : List Int} {k : Nat} (hk : k < vs.length) (hx : B (vs.getD k 0) = false) : vs.all B = false := by
  rw [List.getD_eq_getElem?_getD, List.getElem?_eq_getElem hk, Option.getD_some] at hx
  rw [List.all_eq_false]
  exact ⟨vs[k], List.getElem_mem hk, by rw [hx]; simp⟩
theorem all_yes {B : Int → Bool} {vs : List Int} (h : ∀ j, j < vs.length → B (vs.getD j 0) = true) : vs.all B = true := by
  rw [List.all_eq_true]
  intro x hx
  obtain ⟨i, hi, rfl⟩ := List.getElem_of_mem hx
  have := h i hi
  rwa [List.getD_eq_getElem?_getD, List.getElem?_eq_getElem hi, Option.getD_some] at this
theorem all_calls (v : Value) (vs : List Int) (lo hi : Int) (w : World) (h : Sl .i64 w v vs) (hm : vs.length ≤ 1048576) :
    Calls Try.prog 18 #[v, .int .i64 lo, .int .i64 hi] w fun e w' => e = .returned (.bool (vs.all (inB lo hi))) ∧ w' = w := by
  have Hs := hid h
  have HI := hid l1In_calls
  obtain ⟨a, cap, rfl, _⟩ := h
  go_enter Try.func18, Try.ntmps18
  go_wp2_with fail
  go_loop [7] (fun i => ∃ k : Nat, i = .int .i64 (k : Int) ∧ k ≤ vs.length ∧ Hid (∀ j, j < k → inB lo hi (vs.getD j 0) = true)) (fun i => vs.length - (intOf i).toNat)
  case atStart => exact ⟨0, rfl, Nat.zero_le _, fun j hj => by omega⟩
  case round =>
    obtain ⟨k, rfl, hk, hok⟩ := hrel
    by_cases hlt : k < vs.length
    · have hne : vs ≠ [] := by intro e; rw [e] at hlt; simp at hlt
      obtain ⟨a', cap', hv, hc⟩ := Hs.out
      cases hv
      obtain ⟨b, off, rfl, hbl, hcell⟩ := hc hne
      have hce := hcell k hlt
      have hno := hid (all_not (B := inB lo hi) (vs := vs) (k := k) hlt)
      have hyes : Hid (inB lo hi (vs.getD k 0) = true → ∀ j, j < k + 1 → inB lo hi (vs.getD j 0) = true) := by
        intro hx j hj
        by_cases hjk : j < k
        · exact hok.out j hjk
        · obtain rfl : j = k := by omega
          exact hx
      clear hc hcell hne hok
      generalize vs.getD k 0 = x at *
      have hkI : (k : Int) < (vs.length : Int) := by omega
      cases hin : inB lo hi x
      · have M := hid (hno.out hin)
        clear hno hyes
        go_wp2_with (go_at_call 19; refine (HI.out _ _ _ _).mono ?_; rintro e w' ⟨rfl, rfl⟩; simp only [hin])
        go_ret
        exact ⟨by rw [M.out]; rfl, rfl⟩
      · have M := hid (hyes.out hin)
        clear hno hyes
        go_wp2_with (go_at_call 19; refine (HI.out _ _ _ _).mono ?_; rintro e w' ⟨rfl, rfl⟩; simp only [hin])
        go_round
        case rel => exact ⟨k + 1, by go_num, by omega, M.out⟩
        case measure => simp [intOf]; omega
    · obtain rfl : k = vs.length := by omega
      have M := hid (all_yes hok.out)
      clear hok
      go_wp2
      go_ret
      exact ⟨by rw [M.out]; rfl, rfl⟩
end Go.Proofs.Ytfmgdhpadamlkaa.IntA
