/- SizeFault and SamplesFault, the program's and the model's: both return the same code at every size and list. || SamplesFault, the program's and the model's: both return the same code at every size and list. Condition: none but that the slice holds its numbers. || The mathematics of turns and mixes: the table of turns, the three steps and their undoing, sums and differences; no program is spoken of. || Pairs: an answer is made of a pair; both numbers of a pair are held against MaxWide, by the program and by the model. No conditions. || The mathematics of halves and blocks: a list is halved and united, spread into coefficients and gathered, each way round to the last bit; how great the numbers become. No program is spoken of. || How long the answers of blocks are. || The model's mixing and parting of two numbers. Condition: the numbers lie within MaxWide. || The mathematics of frames that overlap: seams that are turned and turned back, laps and synths, what is fed and what is played, how great the numbers become, and that a frame comes back two frames later. No program is spoken of. || What is fed and what is played stays right, and a frame that was fed comes back two frames later to the last bit. No program is spoken of. || The mathematics of bounds: what is turned back, parted, gathered and played out of numbers that are off by no more than their bounds. No program is spoken of. || Both ways back in one word: numbers that are turned and parted back (k = false), and bounds of them (k = true): what comes of them, and how great it becomes. No program is spoken of. -/
import Derived.Test.YtbakmphopgkpmaaDoorGa
import Derived.Laws.Rows
import Derived.Laws.Tables
import Derived.Laws.CopyOwn
namespace Go.Proofs.YtbakmphopgkpmaaDoor.Samp
open Go.ChangeShapes Go.WideShapes Go.ChangeAt Go.RowKit Go.Proofs.YtbakmphopgkpmaaDoor.Num Go.Proofs.YtbakmphopgkpmaaDoor.Sli Go.Proofs.YtbakmphopgkpmaaDoor.Div

/-- The code of a size. -/
def szF (s : Int) : Int := if s = 4 ∨ s = 8 ∨ s = 16 then 0 else 3
theorem szF_no {s : Int} (h4 : (s == 4) = false) (h8 : (s == 8) = false) (h16 : (s == 16) = false) : szF s = 3 := by
  simp at h4 h8 h16; unfold szF; rw [if_neg (by omega)]

theorem implSizeFault_calls (s : Int) (w : World) :
    Calls Tryd.prog 83 #[.int .i64 s] w fun e w' => e = .returned (.int .i64 (szF s)) ∧ w' = w := by
  cases h4 : (s == 4)
  · cases h8 : (s == 8)
    · cases h16 : (s == 16)
      · have H : Hid (szF s = 3) := szF_no h4 h8 h16
        go_enter Tryd.func83, Tryd.ntmps83
        go_wp2
        go_ret
        exact ⟨ret_int H.out.symm, rfl⟩
      · simp at h16; subst h16
        go_enter Tryd.func83, Tryd.ntmps83
        go_wp2
        go_ret
        exact ⟨rfl, rfl⟩
    · simp at h8; subst h8
      go_enter Tryd.func83, Tryd.ntmps83
      go_wp2
      go_ret
      exact ⟨rfl, rfl⟩
  · simp at h4; subst h4
    go_enter Tryd.func83, Tryd.ntmps83
    go_wp2
    go_ret
    exact ⟨rfl, rfl⟩

theorem specSizeFault_calls (s : Int) (w : World) :
    Calls Tryd.prog 81 #[.int .i64 s] w fun e w' => e = .returned (.int .i64 (szF s)) ∧ w' = w := by
  cases h4 : (s == 4)
  · cases h8 : (s == 8)
    · cases h16 : (s == 16)
      · have H : Hid (szF s = 3) := szF_no h4 h8 h16
        have n4 : (s != 4) = true := by simp at h4 ⊢; exact h4
        have n8 : (s != 8) = true := by simp at h8 ⊢; exact h8
        have n16 : (s != 16) = true := by simp at h16 ⊢; exact h16
        go_enter Tryd.func81, Tryd.ntmps81
        go_wp2
        go_ret
        exact ⟨ret_int H.out.symm, rfl⟩
      · simp at h16; subst h16
        go_enter Tryd.func81, Tryd.ntmps81
        go_wp2
        go_ret
        exact ⟨rfl, rfl⟩
    · simp at h8; subst h8
      go_enter Tryd.func81, Tryd.ntmps81
      go_wp2
      go_ret
      exact ⟨rfl, rfl⟩
  · simp at h4; subst h4
    go_enter Tryd.func81, Tryd.ntmps81
    go_wp2
    go_ret
    exact ⟨rfl, rfl⟩

def half16 (xs : List Int) (k : Nat) : List Int := xs.take k ++ List.replicate (16 - k) 0
def sampB (v : Int) : Bool := inB (-32768) 32767 v

theorem allB_no {B : Int → Bool} {ys : List Int} {k : Nat} (hk : k < ys.length) (hx : B (ys.getD k 0) = false) : ys.all B = false := by
  rw [List.getD_eq_getElem?_getD, List.getElem?_eq_getElem hk, Option.getD_some] at hx
  rw [List.all_eq_false]
  exact ⟨ys[k], List.getElem_mem hk, by rw [hx]; simp⟩
theorem takeB_snoc {B : Int → Bool} {ys : List Int} {k : Nat} (hk : k < ys.length) (ha : (ys.take k).all B = true) (hx : B (ys.getD k 0) = true) : (ys.take (k + 1)).all B = true := by
  rw [List.getD_eq_getElem?_getD, List.getElem?_eq_getElem hk, Option.getD_some] at hx
  rw [List.take_succ_eq_append_getElem hk, List.all_append, ha]; simp only [List.all_cons, List.all_nil, hx]; rfl
end Go.Proofs.YtbakmphopgkpmaaDoor.Samp

namespace Go.Proofs.YtbakmphopgkpmaaDoor.SampF
open Go.ChangeShapes Go.WideShapes Go.ChangeAt Go.RowKit Go.Proofs.YtbakmphopgkpmaaDoor.Num Go.Proofs.YtbakmphopgkpmaaDoor.Sli Go.Proofs.YtbakmphopgkpmaaDoor.Div Go.Proofs.YtbakmphopgkpmaaDoor.Samp

def smF (s : Int) (xs : List Int) : Int := if szF s = 0 then (if (xs.length : Int) = s then (if xs.all sampB = true then 0 else 3) else 2) else 3
theorem szF_03 (s : Int) : szF s = 0 ∨ szF s = 3 := by unfold szF; split <;> simp
theorem szF_bd {s : Int} (h : szF s = 0) : 4 ≤ s ∧ s ≤ 16 := by
  unfold szF at h; split at h
  · omega
  · cases h
theorem smF_size {s : Int} {xs : List Int} (h : szF s = 3) : 3 = smF s xs := by unfold smF; rw [h]; rfl
theorem smF_many {s : Int} {xs : List Int} (h : szF s = 0) (hl : ¬ (xs.length : Int) = s) : 2 = smF s xs := by unfold smF; rw [if_pos h, if_neg hl]
theorem smF_yes {s : Int} {xs : List Int} (h : szF s = 0) (hl : (xs.length : Int) = s) (ha : xs.all sampB = true) : 0 = smF s xs := by unfold smF; rw [if_pos h, if_pos hl, if_pos ha]
theorem smF_no {s : Int} {xs : List Int} (h : szF s = 0) (hl : (xs.length : Int) = s) (ha : xs.all sampB = false) : 3 = smF s xs := by unfold smF; rw [if_pos h, if_pos hl, if_neg (by rw [ha]; simp)]
theorem half16_all (xs : List Int) : (half16 xs xs.length).all sampB = xs.all sampB := by
  unfold half16
  rw [List.take_length, List.all_append, List.all_replicate]
  have : sampB 0 = true := rfl
  rw [this]; simp


end Go.Proofs.YtbakmphopgkpmaaDoor.SampF

namespace Go.Proofs.YtbakmphopgkpmaaDoor.TurM
open Go.ChangeShapes Go.WideShapes Go.ChangeAt Go.RowKit Go.Proofs.YtbakmphopgkpmaaDoor.Num Go.Proofs.YtbakmphopgkpmaaDoor.Samp

/-- The numbers of the row k of the table: size, turn, P, U. -/
def rowL : List (Int × Int × Int × Int) := [(4, 0, 101, 200), (4, 1, 311, 569), (8, 0, 50, 100), (8, 1, 152, 297), (8, 2, 257, 483), (8, 3, 366, 650), (16, 0, 25, 50), (16, 1, 76, 150), (16, 2, 126, 249), (16, 3, 178, 345), (16, 4, 230, 438), (16, 5, 283, 526), (16, 6, 338, 610), (16, 7, 395, 688)]
def rS (k : Nat) : Int := (rowL.getD k (0, 0, 0, 0)).1
def rN (k : Nat) : Int := (rowL.getD k (0, 0, 0, 0)).2.1
def rP (k : Nat) : Int := (rowL.getD k (0, 0, 0, 0)).2.2.1
def rU (k : Nat) : Int := (rowL.getD k (0, 0, 0, 0)).2.2.2

/-- n is the number of a turn of the size s. -/
def tOk (s n : Int) : Bool := decide (szF s = 0 ∧ 0 ≤ n ∧ n ≤ s / 2 - 1)
/-- The row of a turn. -/
def ix (s n : Int) : Nat := (if s = 4 then n else if s = 8 then n + 2 else n + 6).toNat
def pV (s n : Int) : Int := rP (ix s n)
def uV (s n : Int) : Int := rU (ix s n)
def tC (s n : Int) : Int := if tOk s n = true then 0 else 3
def tA (s n : Int) : Int := if tOk s n = true then pV s n else 0
def tB (s n : Int) : Int := if tOk s n = true then uV s n else 0

theorem t_yes {s n : Int} (h : tOk s n = true) : tC s n = 0 ∧ tA s n = pV s n ∧ tB s n = uV s n := ⟨if_pos h, if_pos h, if_pos h⟩
theorem t_no {s n : Int} (h : tOk s n = false) : tC s n = 3 ∧ tA s n = 0 ∧ tB s n = 0 := by
  have h' : ¬ tOk s n = true := by rw [h]; simp
  exact ⟨if_neg h', if_neg h', if_neg h'⟩
theorem sz_cases {s : Int} (h : szF s = 0) : s = 4 ∨ s = 8 ∨ s = 16 := by
  unfold szF at h; split at h
  · assumption
  · cases h
theorem sz_03 (s : Int) : szF s = 0 ∨ szF s = 3 := by unfold szF; split <;> simp
/-- The fourteen turns. -/
theorem ok_cases {s n : Int} (h : tOk s n = true) : ∃ k : Nat, k < 14 ∧ s = rS k ∧ n = rN k ∧ pV s n = rP k ∧ uV s n = rU k := by
  obtain ⟨hs, h0, h1⟩ := of_decide_eq_true h
  obtain ⟨m, rfl⟩ := Int.eq_ofNat_of_zero_le h0
  rcases sz_cases hs with rfl | rfl | rfl
  · have : m < 2 := by omega
    rcases m with _ | _ | m <;> first | omega | exact ⟨_, by decide, rfl, rfl, rfl, rfl⟩
  · have : m < 4 := by omega
    rcases m with _ | _ | _ | _ | m <;> first | omega | exact ⟨_, by decide, rfl, rfl, rfl, rfl⟩
  · have : m < 8 := by omega
    rcases m with _ | _ | _ | _ | _ | _ | _ | _ | m <;> first | omega | exact ⟨_, by decide, rfl, rfl, rfl, rfl⟩
theorem row_ok : ∀ k : Nat, k < 14 → tOk (rS k) (rN k) = true ∧ pV (rS k) (rN k) = rP k ∧ uV (rS k) (rN k) = rU k := by decide
theorem row_bd : ∀ k : Nat, k < 14 → 1 ≤ rP k ∧ rP k ≤ 395 ∧ 1 ≤ rU k ∧ rU k ≤ 688 := by decide
theorem pu_bd {s n : Int} (h : tOk s n = true) : 1 ≤ pV s n ∧ pV s n ≤ 395 ∧ 1 ≤ uV s n ∧ uV s n ≤ 688 := by
  obtain ⟨k, hk, _, _, e1, e2⟩ := ok_cases h
  rw [e1, e2]; exact row_bd k hk

/-- A number within MaxWide. -/
def wd (a : Int) : Bool := inB (-137438953472) 137438953472 a
def ahA (p u a b : Int) : Int := (a - tenV (p * b)) - tenV (p * (b + tenV (u * (a - tenV (p * b)))))
def ahB (p u a b : Int) : Int := b + tenV (u * (a - tenV (p * b)))
def bkA (p u a b : Int) : Int := (a + tenV (p * b)) + tenV (p * (b - tenV (u * (a + tenV (p * b)))))
def bkB (p u a b : Int) : Int := b - tenV (u * (a + tenV (p * b)))
theorem bk_ah (p u a b : Int) : bkA p u (ahA p u a b) (ahB p u a b) = a ∧ bkB p u (ahA p u a b) (ahB p u a b) = b := by
  unfold bkA bkB ahA ahB
  have e1 : (a - tenV (p * b)) - tenV (p * (b + tenV (u * (a - tenV (p * b))))) + tenV (p * (b + tenV (u * (a - tenV (p * b))))) = a - tenV (p * b) := by omega
  rw [e1]
  have e2 : b + tenV (u * (a - tenV (p * b))) - tenV (u * (a - tenV (p * b))) = b := by omega
  rw [e2]
  omega
theorem ah_bk (p u a b : Int) : ahA p u (bkA p u a b) (bkB p u a b) = a ∧ ahB p u (bkA p u a b) (bkB p u a b) = b := by
  unfold bkA bkB ahA ahB
  have e1 : (a + tenV (p * b)) + tenV (p * (b - tenV (u * (a + tenV (p * b))))) - tenV (p * (b - tenV (u * (a + tenV (p * b))))) = a + tenV (p * b) := by omega
  rw [e1]
  have e2 : b - tenV (u * (a + tenV (p * b))) + tenV (u * (a + tenV (p * b))) = b := by omega
  rw [e2]
  omega

theorem ten_bd {v B : Int} (h1 : -B ≤ v) (h2 : v ≤ B) : -(B / 1024 + 1) ≤ tenV v ∧ tenV v ≤ B / 1024 + 1 := by
  unfold tenV; omega
theorem mul_bd {p b P B : Int} (h0 : 0 ≤ p) (h1 : p ≤ P) (h2 : -B ≤ b) (h3 : b ≤ B) (hB : 0 ≤ B) : -(P * B) ≤ p * b ∧ p * b ≤ P * B := by
  have a1 := Int.mul_le_mul_of_nonneg_left h3 h0
  have a2 := Int.mul_le_mul_of_nonneg_left h2 h0
  have a3 := Int.mul_le_mul_of_nonneg_right h1 hB
  rw [Int.mul_neg] at a2
  omega

/-- What is between the steps, and that none of it is too great: the products first, then what is told. -/
theorem ah_bd {p u a b : Int} (hp : 1 ≤ p ∧ p ≤ 395 ∧ 1 ≤ u ∧ u ≤ 688) (ha : -137438953472 ≤ a ∧ a ≤ 137438953472) (hb : -137438953472 ≤ b ∧ b ≤ 137438953472) :
    (-2000000000000000 ≤ p * b ∧ p * b ≤ 2000000000000000) ∧ (-300000000000 ≤ tenV (p * b) ∧ tenV (p * b) ≤ 300000000000) ∧
    (-2000000000000000 ≤ u * (a - tenV (p * b)) ∧ u * (a - tenV (p * b)) ≤ 2000000000000000) ∧ (-300000000000 ≤ tenV (u * (a - tenV (p * b))) ∧ tenV (u * (a - tenV (p * b))) ≤ 300000000000) ∧
    (-2000000000000000 ≤ p * (b + tenV (u * (a - tenV (p * b)))) ∧ p * (b + tenV (u * (a - tenV (p * b)))) ≤ 2000000000000000) ∧
    (-300000000000 ≤ tenV (p * (b + tenV (u * (a - tenV (p * b))))) ∧ tenV (p * (b + tenV (u * (a - tenV (p * b))))) ≤ 300000000000) := by
  have m1 := mul_bd (P := 395) (B := 137438953472) (by omega) hp.2.1 hb.1 hb.2 (by omega)
  have t1 := ten_bd (B := 395 * 137438953472) m1.1 m1.2
  have m2 := mul_bd (p := u) (b := a - tenV (p * b)) (P := 688) (B := 190500000000) (by omega) hp.2.2.2 (by omega) (by omega) (by omega)
  have t2 := ten_bd (B := 688 * 190500000000) m2.1 m2.2
  have m3 := mul_bd (p := p) (b := b + tenV (u * (a - tenV (p * b)))) (P := 395) (B := 266000000000) (by omega) hp.2.1 (by omega) (by omega) (by omega)
  have t3 := ten_bd (B := 395 * 266000000000) m3.1 m3.2
  refine ⟨⟨by omega, by omega⟩, ⟨by omega, by omega⟩, ⟨by omega, by omega⟩, ⟨by omega, by omega⟩, ⟨by omega, by omega⟩, ⟨by omega, by omega⟩⟩
theorem bk_bd {p u a b : Int} (hp : 1 ≤ p ∧ p ≤ 395 ∧ 1 ≤ u ∧ u ≤ 688) (ha : -137438953472 ≤ a ∧ a ≤ 137438953472) (hb : -137438953472 ≤ b ∧ b ≤ 137438953472) :
    (-2000000000000000 ≤ p * b ∧ p * b ≤ 2000000000000000) ∧ (-300000000000 ≤ tenV (p * b) ∧ tenV (p * b) ≤ 300000000000) ∧
    (-2000000000000000 ≤ u * (a + tenV (p * b)) ∧ u * (a + tenV (p * b)) ≤ 2000000000000000) ∧ (-300000000000 ≤ tenV (u * (a + tenV (p * b))) ∧ tenV (u * (a + tenV (p * b))) ≤ 300000000000) ∧
    (-2000000000000000 ≤ p * (b - tenV (u * (a + tenV (p * b)))) ∧ p * (b - tenV (u * (a + tenV (p * b)))) ≤ 2000000000000000) ∧
    (-300000000000 ≤ tenV (p * (b - tenV (u * (a + tenV (p * b))))) ∧ tenV (p * (b - tenV (u * (a + tenV (p * b))))) ≤ 300000000000) := by
  have m1 := mul_bd (P := 395) (B := 137438953472) (by omega) hp.2.1 hb.1 hb.2 (by omega)
  have t1 := ten_bd (B := 395 * 137438953472) m1.1 m1.2
  have m2 := mul_bd (p := u) (b := a + tenV (p * b)) (P := 688) (B := 190500000000) (by omega) hp.2.2.2 (by omega) (by omega) (by omega)
  have t2 := ten_bd (B := 688 * 190500000000) m2.1 m2.2
  have m3 := mul_bd (p := p) (b := b - tenV (u * (a + tenV (p * b)))) (P := 395) (B := 266000000000) (by omega) hp.2.1 (by omega) (by omega) (by omega)
  have t3 := ten_bd (B := 395 * 266000000000) m3.1 m3.2
  refine ⟨⟨by omega, by omega⟩, ⟨by omega, by omega⟩, ⟨by omega, by omega⟩, ⟨by omega, by omega⟩, ⟨by omega, by omega⟩, ⟨by omega, by omega⟩⟩

/-- The common answers of TurnPair and BackPair. -/
def tpO (s n a b : Int) : Bool := tOk s n && (wd a && wd b)
def tpC (s n a b : Int) : Int := if tpO s n a b = true then 0 else 3
def tpA (s n a b : Int) : Int := if tpO s n a b = true then ahA (pV s n) (uV s n) a b else 0
def tpB (s n a b : Int) : Int := if tpO s n a b = true then ahB (pV s n) (uV s n) a b else 0
def bpA (s n a b : Int) : Int := if tpO s n a b = true then bkA (pV s n) (uV s n) a b else 0
def bpB (s n a b : Int) : Int := if tpO s n a b = true then bkB (pV s n) (uV s n) a b else 0
theorem tp_yes {s n a b : Int} (h : tpO s n a b = true) : tpC s n a b = 0 ∧ (tpA s n a b = ahA (pV s n) (uV s n) a b ∧ tpB s n a b = ahB (pV s n) (uV s n) a b) ∧ (bpA s n a b = bkA (pV s n) (uV s n) a b ∧ bpB s n a b = bkB (pV s n) (uV s n) a b) :=
  ⟨if_pos h, ⟨if_pos h, if_pos h⟩, ⟨if_pos h, if_pos h⟩⟩
theorem tp_no {s n a b : Int} (h : tpO s n a b = false) : tpC s n a b = 3 ∧ (tpA s n a b = 0 ∧ tpB s n a b = 0) ∧ (bpA s n a b = 0 ∧ bpB s n a b = 0) := by
  have h' : ¬ tpO s n a b = true := by rw [h]; simp
  exact ⟨if_neg h', ⟨if_neg h', if_neg h'⟩, ⟨if_neg h', if_neg h'⟩⟩
/-- The common answers of MixPair and PartPair. -/
def mxO (a b : Int) : Bool := wd a && wd b
def mxC (a b : Int) : Int := if mxO a b = true then 0 else 3
def mxA (a b : Int) : Int := if mxO a b = true then b + (a - b) / 2 else 0
def mxB (a b : Int) : Int := if mxO a b = true then a - b else 0
def ptA (s d : Int) : Int := if mxO s d = true then (s - d / 2) + d else 0
def ptB (s d : Int) : Int := if mxO s d = true then s - d / 2 else 0
theorem mx_yes {a b : Int} (h : mxO a b = true) : mxC a b = 0 ∧ (mxA a b = b + (a - b) / 2 ∧ mxB a b = a - b) ∧ (ptA a b = (a - b / 2) + b ∧ ptB a b = a - b / 2) :=
  ⟨if_pos h, ⟨if_pos h, if_pos h⟩, ⟨if_pos h, if_pos h⟩⟩
theorem mx_no {a b : Int} (h : mxO a b = false) : mxC a b = 3 ∧ (mxA a b = 0 ∧ mxB a b = 0) ∧ (ptA a b = 0 ∧ ptB a b = 0) := by
  have h' : ¬ mxO a b = true := by rw [h]; simp
  exact ⟨if_neg h', ⟨if_neg h', if_neg h'⟩, ⟨if_neg h', if_neg h'⟩⟩
end Go.Proofs.YtbakmphopgkpmaaDoor.TurM

namespace Go.Proofs.YtbakmphopgkpmaaDoor.Par
open Go.ChangeShapes Go.WideShapes Go.ChangeAt Go.RowKit Go.Proofs.YtbakmphopgkpmaaDoor.Num Go.Proofs.YtbakmphopgkpmaaDoor.Sli Go.Proofs.YtbakmphopgkpmaaDoor.Div Go.Proofs.YtbakmphopgkpmaaDoor.Samp Go.Proofs.YtbakmphopgkpmaaDoor.Blk Go.Proofs.YtbakmphopgkpmaaDoor.TurM

theorem ret_three {c a b c' a' b' : Int} (h1 : c = c') (h2 : a = a') (h3 : b = b') : Ending.returned (.agg #[.int .i64 c, .int .i64 a, .int .i64 b]) = .returned (.agg #[.int .i64 c', .int .i64 a', .int .i64 b']) := by rw [h1, h2, h3]
theorem result_calls (a b : Int) (w : World) :
    Calls Tryd.prog 92 #[.agg #[.int .i64 a, .int .i64 b]] w fun e w' => e = .returned (.agg #[.int .i64 0, .int .i64 a, .int .i64 b]) ∧ Below w.heap.size w w' := by
  go_enter Tryd.func92, Tryd.ntmps92
  go_wp2
  exact bodyPost_ret (v := .agg #[.int .i64 0, .int .i64 a, .int .i64 b]) (by simp [results, Tryd.results92, go_sem]) rfl ⟨rfl, bmore (bmore (Below.refl _ _) _) _⟩
theorem pairOf_calls (a b : Int) (w : World) :
    Calls Tryd.prog 47 #[.int .i64 a, .int .i64 b] w fun e w' => e = .returned (.agg #[.int .i64 a, .int .i64 b]) ∧ Below w.heap.size w w' := by
  go_enter Tryd.func47, Tryd.ntmps47
  go_wp2
  exact bodyPost_ret (v := .agg #[.int .i64 a, .int .i64 b]) (by simp [results, Tryd.results47, go_sem]) rfl ⟨rfl, bmore (Below.refl _ _) _⟩
theorem isWide_calls (a b : Int) (w : World) :
    Calls Tryd.prog 57 #[.agg #[.int .i64 a, .int .i64 b]] w fun e w' => e = .returned (.bool (wd a && wd b)) ∧ Below w.heap.size w w' := by
  have HW := hid isWithin_calls
  unfold wd
  cases h1 : inB (-137438953472) 137438953472 a
  · go_enter Tryd.func57, Tryd.ntmps57
    go_wp2_with (go_at_call 93; refine (HW.out _ _ _ _).mono ?_; rintro e w' ⟨rfl, rfl⟩)
    go_ret
    exact ⟨rfl, bmore (Below.refl _ _) _⟩
  · go_enter Tryd.func57, Tryd.ntmps57
    go_wp2_with (go_at_call 93; refine (HW.out _ _ _ _).mono ?_; rintro e w' ⟨rfl, rfl⟩)
    go_ret
    exact ⟨rfl, bmore (Below.refl _ _) _⟩
theorem isBounds_calls (a b : Int) (w : World) :
    Calls Tryd.prog 48 #[.agg #[.int .i64 a, .int .i64 b]] w fun e w' => e = .returned (.bool (inB 0 137438953472 a && inB 0 137438953472 b)) ∧ Below w.heap.size w w' := by
  have HW := hid isWithin_calls
  cases h1 : inB 0 137438953472 a
  · go_enter Tryd.func48, Tryd.ntmps48
    go_wp2_with (go_at_call 93; refine (HW.out _ _ _ _).mono ?_; rintro e w' ⟨rfl, rfl⟩)
    go_ret
    exact ⟨rfl, bmore (Below.refl _ _) _⟩
  · go_enter Tryd.func48, Tryd.ntmps48
    go_wp2_with (go_at_call 93; refine (HW.out _ _ _ _).mono ?_; rintro e w' ⟨rfl, rfl⟩)
    go_ret
    exact ⟨rfl, bmore (Below.refl _ _) _⟩
theorem eqPair_calls (c a b : Int) (w : World) :
    Calls Tryd.prog 34 #[.agg #[.int .i64 c, .int .i64 a, .int .i64 b], .agg #[.int .i64 c, .int .i64 a, .int .i64 b]] w fun e w' => e = .returned (.bool true) ∧ Below w.heap.size w w' := by
  go_enter Tryd.func34, Tryd.ntmps34
  go_wp2
  go_ret
  exact ⟨rfl, ((Below.refl _ _).alloc (Nat.le_refl _) _).alloc (by simp) _⟩
end Go.Proofs.YtbakmphopgkpmaaDoor.Par

namespace Go.Proofs.YtbakmphopgkpmaaDoor.HalM
open Go.ChangeShapes Go.WideShapes Go.ChangeAt Go.RowKit Go.Proofs.YtbakmphopgkpmaaDoor.Num Go.Proofs.YtbakmphopgkpmaaDoor.Samp Go.Proofs.YtbakmphopgkpmaaDoor.TurM

/-- The list of f 0, f 1 .. f (m - 1). -/
def mkL (m : Nat) (f : Nat → Int) : List Int := (List.range m).map f
theorem mkL_len (m : Nat) (f : Nat → Int) : (mkL m f).length = m := by simp [mkL]
theorem mkL_get {m i : Nat} (f : Nat → Int) (h : i < m) : (mkL m f).getD i 0 = f i := by simp [mkL, h]
theorem mkL_far {m i : Nat} (f : Nat → Int) (h : m ≤ i) : (mkL m f).getD i 0 = 0 := by simp [mkL, h]
theorem mkL_succ (m : Nat) (f : Nat → Int) : mkL (m + 1) f = mkL m f ++ [f m] := by simp [mkL, List.range_succ]
theorem mkL_zero (f : Nat → Int) : mkL 0 f = [] := rfl
theorem ext_g {a b : List Int} (hl : a.length = b.length) (h : ∀ i, i < a.length → a.getD i 0 = b.getD i 0) : a = b := by
  apply List.ext_getElem hl
  intro i h1 h2
  have := h i h1
  rw [List.getD_eq_getElem?_getD, List.getD_eq_getElem?_getD, List.getElem?_eq_getElem h1, List.getElem?_eq_getElem h2] at this
  exact this
theorem mkL_self (l : List Int) : mkL l.length (fun i => l.getD i 0) = l := by
  apply ext_g (mkL_len _ _)
  intro i hi
  rw [mkL_len] at hi
  exact mkL_get _ hi
theorem mkL_congr {m : Nat} {f h : Nat → Int} (e : ∀ i, i < m → f i = h i) : mkL m f = mkL m h := by
  apply ext_g (by rw [mkL_len, mkL_len])
  intro i hi
  rw [mkL_len] at hi
  rw [mkL_get _ hi, mkL_get _ hi, e i hi]

/-- Pairs of places i and m - 1 - i that are written from outside inward: behind k rounds. -/
def pS (m k : Nat) (v o : Nat → Int) : List Int := mkL m (fun j => if j < k ∨ m - 1 - j < k then v j else o j)
theorem pS_len (m k : Nat) (v o : Nat → Int) : (pS m k v o).length = m := mkL_len _ _
theorem pS_zero (m : Nat) (v o : Nat → Int) : pS m 0 v o = mkL m o := mkL_congr (fun i _ => by simp)
theorem pS_end {m k : Nat} (v o : Nat → Int) (h : m ≤ 2 * k) : pS m k v o = mkL m v := mkL_congr (fun i hi => if_pos (by omega))
theorem pS_lo {m k : Nat} (v o : Nat → Int) (h : 2 * k < m) : (pS m k v o).getD k 0 = o k := by
  unfold pS; rw [mkL_get _ (by omega), if_neg (by omega)]
theorem pS_hi {m k : Nat} (v o : Nat → Int) (h : 2 * k < m) : (pS m k v o).getD (m - 1 - k) 0 = o (m - 1 - k) := by
  unfold pS; rw [mkL_get _ (by omega), if_neg (by omega)]
theorem getD_set (l : List Int) (i j : Nat) (x : Int) (hj : j < l.length) : (l.set i x).getD j 0 = if i = j then x else l.getD j 0 := by
  simp only [List.getD_eq_getElem?_getD, List.getElem?_set]
  by_cases e : i = j
  · subst e; simp [hj]
  · simp [e]
theorem pS_step {m k : Nat} (v o : Nat → Int) : ((pS m k v o).set k (v k)).set (m - 1 - k) (v (m - 1 - k)) = pS m (k + 1) v o := by
  apply ext_g (by simp [pS_len])
  intro j hj
  simp only [List.length_set, pS_len] at hj
  rw [getD_set _ _ _ _ (by simpa [pS_len] using hj), getD_set _ _ _ _ (by simpa [pS_len] using hj)]
  unfold pS
  rw [mkL_get _ hj, mkL_get _ hj]
  by_cases e1 : m - 1 - k = j
  · subst e1; rw [if_pos rfl, if_pos (by omega)]
  · rw [if_neg e1]
    by_cases e2 : k = j
    · subst e2; rw [if_pos rfl, if_pos (by omega)]
    · rw [if_neg e2]
      by_cases e3 : j < k ∨ m - 1 - j < k
      · rw [if_pos e3, if_pos (by omega)]
      · rw [if_neg e3, if_neg (by omega)]

/-- Pairs of a list d of n / 2 numbers, each changed by F: the place j of what comes of it. -/
def prE (F : Nat → Int → Int → Int × Int) (n : Nat) (d : List Int) (j : Nat) : Int :=
  if n ≤ 2 then d.getD j 0 else if j < n / 4 then (F j (d.getD j 0) (d.getD (n / 2 - 1 - j) 0)).1 else (F (n / 2 - 1 - j) (d.getD (n / 2 - 1 - j) 0) (d.getD j 0)).2
def prL (F : Nat → Int → Int → Int × Int) (n : Nat) (d : List Int) : List Int := mkL (n / 2) (prE F n d)
/-- The turn i of the size n, ahead and back. -/
def ahF (n i : Nat) (a b : Int) : Int × Int := (ahA (pV n i) (uV n i) a b, ahB (pV n i) (uV n i) a b)
def bkF (n i : Nat) (a b : Int) : Int × Int := (bkA (pV n i) (uV n i) a b, bkB (pV n i) (uV n i) a b)
theorem bkF_ahF (n i : Nat) (a b : Int) : bkF n i (ahF n i a b).1 (ahF n i a b).2 = (a, b) := Prod.ext (bk_ah _ _ a b).1 (bk_ah _ _ a b).2
theorem ahF_bkF (n i : Nat) (a b : Int) : ahF n i (bkF n i a b).1 (bkF n i a b).2 = (a, b) := Prod.ext (ah_bk _ _ a b).1 (ah_bk _ _ a b).2
/-- How many numbers a list that is halved has. -/
def sz4 (n : Nat) : Prop := n = 2 ∨ n = 4 ∨ n = 8 ∨ n = 16
theorem prL_len (F : Nat → Int → Int → Int × Int) (n : Nat) (d : List Int) : (prL F n d).length = n / 2 := mkL_len _ _
theorem prL_inv {F G : Nat → Int → Int → Int × Int} (hFG : ∀ i a b, G i (F i a b).1 (F i a b).2 = (a, b)) {n : Nat} (hn : sz4 n) {d : List Int} (hd : d.length = n / 2) : prL G n (prL F n d) = d := by
  apply ext_g (by rw [prL_len, hd])
  intro j hj
  rw [prL_len] at hj
  have h4 : n ≤ 2 ∨ n / 2 = 2 * (n / 4) := by rcases hn with rfl | rfl | rfl | rfl <;> omega
  rw [show prL G n (prL F n d) = mkL (n / 2) (prE G n (prL F n d)) from rfl, mkL_get _ hj]
  unfold prE
  by_cases h2 : n ≤ 2
  · rw [if_pos h2]
    rw [show prL F n d = mkL (n / 2) (prE F n d) from rfl, mkL_get _ hj]
    unfold prE; rw [if_pos h2]
  · rw [if_neg h2]
    have hk : n / 2 = 2 * (n / 4) := by omega
    have hj2 : n / 2 - 1 - j < n / 2 := by omega
    rw [show prL F n d = mkL (n / 2) (prE F n d) from rfl, mkL_get _ hj, mkL_get _ hj2]
    unfold prE
    rw [if_neg h2, if_neg h2]
    by_cases hq : j < n / 4
    · rw [if_pos hq, if_pos hq, if_neg (by omega), show n / 2 - 1 - (n / 2 - 1 - j) = j by omega, hFG]
    · rw [if_neg hq, if_neg hq, if_pos (by omega), show n / 2 - 1 - (n / 2 - 1 - j) = j by omega, hFG]
theorem prL_two (F : Nat → Int → Int → Int × Int) {n : Nat} (h : n ≤ 2) {d : List Int} (hd : d.length = n / 2) : prL F n d = d := by
  have e : prL F n d = mkL d.length (fun i => d.getD i 0) := by rw [hd]; exact mkL_congr (fun i _ => if_pos h)
  rw [e, mkL_self]
/-- What the pairs are behind k rounds. -/
theorem prL_state {F : Nat → Int → Int → Int × Int} {n : Nat} (hn : sz4 n) (h2 : 2 < n) (d : List Int) : pS (n / 2) (n / 4) (prE F n d) (fun i => d.getD i 0) = prL F n d :=
  pS_end _ _ (by rcases hn with rfl | rfl | rfl | rfl <;> omega)
theorem prE_lo {F : Nat → Int → Int → Int × Int} {n j : Nat} (h2 : 2 < n) (hj : j < n / 4) (d : List Int) : prE F n d j = (F j (d.getD j 0) (d.getD (n / 2 - 1 - j) 0)).1 := by
  unfold prE; rw [if_neg (by omega), if_pos hj]
theorem prE_hi {F : Nat → Int → Int → Int × Int} {n j : Nat} (hn : sz4 n) (h2 : 2 < n) (hj : j < n / 4) (d : List Int) : prE F n d (n / 2 - 1 - j) = (F j (d.getD j 0) (d.getD (n / 2 - 1 - j) 0)).2 := by
  have hk : n / 2 = 2 * (n / 4) := by rcases hn with rfl | rfl | rfl | rfl <;> omega
  unfold prE; rw [if_neg (by omega), if_neg (by omega), show n / 2 - 1 - (n / 2 - 1 - j) = j by omega]

/-- Both halves of a list. -/
def hSe (l : List Int) (i : Nat) : Int := l.getD (l.length - 1 - i) 0 + (l.getD i 0 - l.getD (l.length - 1 - i) 0) / 2
def hDe (l : List Int) (i : Nat) : Int := l.getD i 0 - l.getD (l.length - 1 - i) 0
def hS (l : List Int) : List Int := mkL (l.length / 2) (hSe l)
def hD0 (l : List Int) : List Int := mkL (l.length / 2) (hDe l)
def hD (l : List Int) : List Int := prL (ahF l.length) l.length (hD0 l)
/-- The list of both halves. -/
def unE (n : Nat) (s e : List Int) (j : Nat) : Int := if j < n / 2 then s.getD j 0 - e.getD j 0 / 2 + e.getD j 0 else s.getD (n - 1 - j) 0 - e.getD (n - 1 - j) 0 / 2
def unB (n : Nat) (d : List Int) : List Int := prL (bkF n) n d
def un (s d : List Int) : List Int := mkL (2 * s.length) (unE (2 * s.length) s (unB (2 * s.length) d))
theorem hS_len (l : List Int) : (hS l).length = l.length / 2 := mkL_len _ _
theorem hD0_len (l : List Int) : (hD0 l).length = l.length / 2 := mkL_len _ _
theorem hD_len (l : List Int) : (hD l).length = l.length / 2 := mkL_len _ _
theorem un_len (s d : List Int) : (un s d).length = 2 * s.length := mkL_len _ _
theorem sz4_even {n : Nat} (h : sz4 n) : 2 * (n / 2) = n := by rcases h with rfl | rfl | rfl | rfl <;> rfl
theorem un_halves {l : List Int} (hn : sz4 l.length) : un (hS l) (hD l) = l := by
  have h2 := sz4_even hn
  apply ext_g (by rw [un_len, hS_len, h2])
  intro j hj
  rw [un_len, hS_len, h2] at hj
  unfold un unB
  rw [hS_len, h2, mkL_get _ hj]
  have e1 : prL (bkF l.length) l.length (hD l) = hD0 l := prL_inv (bkF_ahF l.length) hn (hD0_len l)
  rw [e1]
  unfold unE
  by_cases hq : j < l.length / 2
  · rw [if_pos hq, show (hS l).getD j 0 = hSe l j from mkL_get _ hq, show (hD0 l).getD j 0 = hDe l j from mkL_get _ hq]
    unfold hSe hDe; omega
  · have hq2 : l.length - 1 - j < l.length / 2 := by omega
    rw [if_neg hq, show (hS l).getD (l.length - 1 - j) 0 = hSe l (l.length - 1 - j) from mkL_get _ hq2, show (hD0 l).getD (l.length - 1 - j) 0 = hDe l (l.length - 1 - j) from mkL_get _ hq2]
    unfold hSe hDe
    rw [show l.length - 1 - (l.length - 1 - j) = j by omega]; omega
theorem halves_un {s d : List Int} (hn : sz4 (2 * s.length)) (hd : d.length = s.length) : hS (un s d) = s ∧ hD (un s d) = d := by
  have h2 : 2 * s.length / 2 = s.length := by omega
  have hb : ∀ i, i < s.length → (un s d).getD i 0 = s.getD i 0 - (unB (2 * s.length) d).getD i 0 / 2 + (unB (2 * s.length) d).getD i 0 ∧ (un s d).getD (2 * s.length - 1 - i) 0 = s.getD i 0 - (unB (2 * s.length) d).getD i 0 / 2 := by
    intro i hi
    unfold un
    rw [mkL_get _ (by omega), mkL_get _ (by omega)]
    unfold unE
    rw [if_pos (by omega), if_neg (by omega), show 2 * s.length - 1 - (2 * s.length - 1 - i) = i by omega]
    exact ⟨rfl, rfl⟩
  have e0 : hD0 (un s d) = unB (2 * s.length) d := by
    apply ext_g (by rw [hD0_len, un_len, unB, prL_len])
    intro i hi
    rw [hD0_len, un_len, h2] at hi
    rw [show (hD0 (un s d)).getD i 0 = hDe (un s d) i from mkL_get _ (by rw [un_len]; omega)]
    unfold hDe
    rw [un_len, (hb i hi).1, (hb i hi).2]; omega
  constructor
  · apply ext_g (by rw [hS_len, un_len]; omega)
    intro i hi
    rw [hS_len, un_len, h2] at hi
    rw [show (hS (un s d)).getD i 0 = hSe (un s d) i from mkL_get _ (by rw [un_len]; omega)]
    unfold hSe
    rw [un_len, (hb i hi).1, (hb i hi).2]; omega
  · unfold hD
    rw [e0, un_len]
    exact prL_inv (ahF_bkF _) hn (by rw [hd]; omega)

/-- One list out of two, place by place; and its even and its odd places. -/
def inE (a b : List Int) (j : Nat) : Int := if j % 2 = 0 then a.getD (j / 2) 0 else b.getD (j / 2) 0
def inter (a b : List Int) : List Int := mkL (2 * a.length) (inE a b)
def ev (c : List Int) : List Int := mkL (c.length / 2) (fun i => c.getD (2 * i) 0)
def od (c : List Int) : List Int := mkL (c.length / 2) (fun i => c.getD (2 * i + 1) 0)
theorem inter_len (a b : List Int) : (inter a b).length = 2 * a.length := mkL_len _ _
theorem ev_len (c : List Int) : (ev c).length = c.length / 2 := mkL_len _ _
theorem od_len (c : List Int) : (od c).length = c.length / 2 := mkL_len _ _
theorem ev_inter (a b : List Int) : ev (inter a b) = a := by
  apply ext_g (by rw [ev_len, inter_len]; omega)
  intro i hi
  rw [ev_len, inter_len] at hi
  rw [show (ev (inter a b)).getD i 0 = (inter a b).getD (2 * i) 0 from mkL_get _ (by rw [inter_len]; omega)]
  rw [show (inter a b).getD (2 * i) 0 = inE a b (2 * i) from mkL_get _ (by omega)]
  unfold inE; rw [if_pos (by omega), show 2 * i / 2 = i by omega]
theorem od_inter {a b : List Int} (h : b.length = a.length) : od (inter a b) = b := by
  apply ext_g (by rw [od_len, inter_len]; omega)
  intro i hi
  rw [od_len, inter_len] at hi
  rw [show (od (inter a b)).getD i 0 = (inter a b).getD (2 * i + 1) 0 from mkL_get _ (by rw [inter_len]; omega)]
  rw [show (inter a b).getD (2 * i + 1) 0 = inE a b (2 * i + 1) from mkL_get _ (by omega)]
  unfold inE; rw [if_neg (by omega), show (2 * i + 1) / 2 = i by omega]
theorem inter_ev_od {c : List Int} (h : 2 * (c.length / 2) = c.length) : inter (ev c) (od c) = c := by
  apply ext_g (by rw [inter_len, ev_len, h])
  intro i hi
  rw [inter_len, ev_len, h] at hi
  rw [show (inter (ev c) (od c)).getD i 0 = inE (ev c) (od c) i from mkL_get _ (by rw [ev_len]; omega)]
  unfold inE
  by_cases e : i % 2 = 0
  · rw [if_pos e, show (ev c).getD (i / 2) 0 = c.getD (2 * (i / 2)) 0 from mkL_get _ (by omega), show 2 * (i / 2) = i by omega]
  · rw [if_neg e, show (od c).getD (i / 2) 0 = c.getD (2 * (i / 2) + 1) 0 from mkL_get _ (by omega), show 2 * (i / 2) + 1 = i by omega]

/-- The coefficients of 2 to the power of k numbers, and the numbers of so many coefficients. -/
def sp : Nat → List Int → List Int
  | 0, l => l
  | k + 1, l => inter (sp k (hS l)) (sp k (hD l))
def ga : Nat → List Int → List Int
  | 0, c => c
  | k + 1, c => un (ga k (ev c)) (ga k (od c))
theorem sp_len : ∀ (k : Nat) (l : List Int), l.length = 2 ^ k → (sp k l).length = 2 ^ k
  | 0, _, h => h
  | k + 1, l, h => by
    show (inter (sp k (hS l)) (sp k (hD l))).length = _
    rw [inter_len, sp_len k (hS l) (by rw [hS_len, h, Nat.pow_succ]; omega), Nat.pow_succ]; omega
theorem ga_len : ∀ (k : Nat) (c : List Int), c.length = 2 ^ k → (ga k c).length = 2 ^ k
  | 0, _, h => h
  | k + 1, c, h => by
    show (un (ga k (ev c)) (ga k (od c))).length = _
    rw [un_len, ga_len k (ev c) (by rw [ev_len, h, Nat.pow_succ]; omega), Nat.pow_succ]; omega
theorem sz4_pow {k : Nat} (h : k + 1 ≤ 4) : sz4 (2 ^ (k + 1)) := by
  rcases k with _ | _ | _ | _ | k
  · exact .inl rfl
  · exact .inr (.inl rfl)
  · exact .inr (.inr (.inl rfl))
  · exact .inr (.inr (.inr rfl))
  · omega
theorem ga_sp : ∀ (k : Nat) (l : List Int), k ≤ 4 → l.length = 2 ^ k → ga k (sp k l) = l
  | 0, _, _, _ => rfl
  | k + 1, l, hk, h => by
    have h1 : (hS l).length = 2 ^ k := by rw [hS_len, h, Nat.pow_succ]; omega
    have h2 : (hD l).length = 2 ^ k := by rw [hD_len, h, Nat.pow_succ]; omega
    show un (ga k (ev (inter (sp k (hS l)) (sp k (hD l))))) (ga k (od (inter (sp k (hS l)) (sp k (hD l))))) = l
    rw [ev_inter, od_inter (by rw [sp_len k _ h1, sp_len k _ h2]), ga_sp k _ (by omega) h1, ga_sp k _ (by omega) h2]
    exact un_halves (by rw [h]; exact sz4_pow hk)
theorem sp_ga : ∀ (k : Nat) (c : List Int), k ≤ 4 → c.length = 2 ^ k → sp k (ga k c) = c
  | 0, _, _, _ => rfl
  | k + 1, c, hk, h => by
    have h1 : (ev c).length = 2 ^ k := by rw [ev_len, h, Nat.pow_succ]; omega
    have h2 : (od c).length = 2 ^ k := by rw [od_len, h, Nat.pow_succ]; omega
    have e := halves_un (s := ga k (ev c)) (d := ga k (od c)) (by rw [ga_len k _ h1, show 2 * 2 ^ k = 2 ^ (k + 1) by rw [Nat.pow_succ]; omega]; exact sz4_pow hk) (by rw [ga_len k _ h1, ga_len k _ h2])
    show inter (sp k (hS (un (ga k (ev c)) (ga k (od c))))) (sp k (hD (un (ga k (ev c)) (ga k (od c))))) = c
    rw [e.1, e.2, sp_ga k _ (by omega) h1, sp_ga k _ (by omega) h2]
    exact inter_ev_od (by rw [h, Nat.pow_succ]; omega)
/-- No number of the list is beyond M. -/
def lim (M : Int) (l : List Int) : Prop := ∀ i, -M ≤ l.getD i 0 ∧ l.getD i 0 ≤ M
theorem lim.pos {M : Int} {l : List Int} (h : lim M l) : 0 ≤ M := by
  have := h l.length
  rw [show l.getD l.length 0 = 0 by simp] at this
  exact this.2
theorem lim.mono {M N : Int} {l : List Int} (h : lim M l) (hMN : M ≤ N) : lim N l := fun i => by have := h i; omega
theorem lim_mkL {M : Int} {m : Nat} {f : Nat → Int} (h0 : 0 ≤ M) (h : ∀ i, i < m → -M ≤ f i ∧ f i ≤ M) : lim M (mkL m f) := by
  intro i
  by_cases hi : i < m
  · rw [mkL_get _ hi]; exact h i hi
  · rw [mkL_far _ (by omega)]; omega
theorem lim_all {M : Int} (h0 : 0 ≤ M) {l : List Int} : l.all (inB (-M) M) = true ↔ lim M l := by
  rw [List.all_eq_true]
  constructor
  · intro h i
    by_cases hi : i < l.length
    · rw [List.getD_eq_getElem?_getD, List.getElem?_eq_getElem hi, Option.getD_some]
      exact of_inB (h _ (List.getElem_mem hi))
    · rw [List.getD_eq_getElem?_getD, List.getElem?_eq_none (by omega), Option.getD_none]; omega
  · intro h x hx
    obtain ⟨i, hi, rfl⟩ := List.getElem_of_mem hx
    have := h i
    rw [List.getD_eq_getElem?_getD, List.getElem?_eq_getElem hi, Option.getD_some] at this
    exact inB_yes this.1 this.2
theorem lim_hS {M : Int} {l : List Int} (h : lim M l) : lim M (hS l) := lim_mkL h.pos (fun i _ => by
  have h1 := h i
  have h2 := h (l.length - 1 - i)
  unfold hSe; omega)
theorem lim_hD0 {M : Int} {l : List Int} (h : lim M l) : lim (2 * M) (hD0 l) := lim_mkL (by have := h.pos; omega) (fun i _ => by
  have h1 := h i
  have h2 := h (l.length - 1 - i)
  unfold hDe; omega)
/-- The turns by which a list of n is halved. -/
theorem row_small {n i : Nat} (hn : sz4 n) (h2 : 2 < n) (hi : i < n / 4) : tOk n i = true ∧ 1 ≤ pV n i ∧ pV n i ≤ 178 ∧ 1 ≤ uV n i ∧ uV n i ≤ 345 := by
  rcases hn with rfl | rfl | rfl | rfl
  · omega
  · rcases i with _ | i
    · decide
    · omega
  · rcases i with _ | _ | i
    · decide
    · decide
    · omega
  · rcases i with _ | _ | _ | _ | i
    · decide
    · decide
    · decide
    · decide
    · omega
theorem ah_small {p u a b M : Int} (hp : 1 ≤ p ∧ p ≤ 178 ∧ 1 ≤ u ∧ u ≤ 345) (ha : -(2 * M) ≤ a ∧ a ≤ 2 * M) (hb : -(2 * M) ≤ b ∧ b ≤ 2 * M) :
    (-(3 * M + 3) ≤ ahA p u a b ∧ ahA p u a b ≤ 3 * M + 3) ∧ (-(3 * M + 3) ≤ ahB p u a b ∧ ahB p u a b ≤ 3 * M + 3) := by
  unfold ahA ahB
  have m1 := mul_bd (P := 178) (B := 2 * M) (by omega) hp.2.1 hb.1 hb.2 (by omega)
  have t1 := ten_bd m1.1 m1.2
  generalize tenV (p * b) = x at *
  have m2 := mul_bd (p := u) (b := a - x) (P := 345) (B := 2 * M + (178 * (2 * M) / 1024 + 1)) (by omega) hp.2.2.2 (by omega) (by omega) (by omega)
  have t2 := ten_bd m2.1 m2.2
  generalize tenV (u * (a - x)) = y at *
  have m3 := mul_bd (p := p) (b := b + y) (P := 178) (B := 2 * M + (345 * (2 * M + (178 * (2 * M) / 1024 + 1)) / 1024 + 1)) (by omega) hp.2.1 (by omega) (by omega) (by omega)
  have t3 := ten_bd m3.1 m3.2
  generalize tenV (p * (b + y)) = z at *
  clear m1 m2 m3
  omega
theorem bk_small {p u a b M : Int} (hp : 1 ≤ p ∧ p ≤ 178 ∧ 1 ≤ u ∧ u ≤ 345) (ha : -M ≤ a ∧ a ≤ M) (hb : -M ≤ b ∧ b ≤ M) :
    (-(2 * M + 3) ≤ bkA p u a b ∧ bkA p u a b ≤ 2 * M + 3) ∧ (-(2 * M + 3) ≤ bkB p u a b ∧ bkB p u a b ≤ 2 * M + 3) := by
  unfold bkA bkB
  have m1 := mul_bd (P := 178) (B := M) (by omega) hp.2.1 hb.1 hb.2 (by omega)
  have t1 := ten_bd m1.1 m1.2
  generalize tenV (p * b) = x at *
  have m2 := mul_bd (p := u) (b := a + x) (P := 345) (B := M + (178 * M / 1024 + 1)) (by omega) hp.2.2.2 (by omega) (by omega) (by omega)
  have t2 := ten_bd m2.1 m2.2
  generalize tenV (u * (a + x)) = y at *
  have m3 := mul_bd (p := p) (b := b - y) (P := 178) (B := M + (345 * (M + (178 * M / 1024 + 1)) / 1024 + 1)) (by omega) hp.2.1 (by omega) (by omega) (by omega)
  have t3 := ten_bd m3.1 m3.2
  generalize tenV (p * (b - y)) = z at *
  clear m1 m2 m3
  omega
theorem lim_prL {F : Nat → Int → Int → Int × Int} {n : Nat} {M N : Int} (hn : sz4 n) {d : List Int} (hN : M ≤ N) (h : lim M d)
    (hF : ∀ i a b, 2 < n → i < n / 4 → (-M ≤ a ∧ a ≤ M) → (-M ≤ b ∧ b ≤ M) → (-N ≤ (F i a b).1 ∧ (F i a b).1 ≤ N) ∧ (-N ≤ (F i a b).2 ∧ (F i a b).2 ≤ N)) : lim N (prL F n d) := by
  refine lim_mkL (by have := h.pos; omega) (fun j hj => ?_)
  have hk : n ≤ 2 ∨ n / 2 = 2 * (n / 4) := by rcases hn with rfl | rfl | rfl | rfl <;> omega
  unfold prE
  by_cases h2 : n ≤ 2
  · rw [if_pos h2]; have := h j; omega
  · rw [if_neg h2]
    by_cases hq : j < n / 4
    · rw [if_pos hq]; exact (hF j _ _ (by omega) hq (h _) (h _)).1
    · rw [if_neg hq]; exact (hF (n / 2 - 1 - j) _ _ (by omega) (by omega) (h _) (h _)).2
theorem lim_hD {M : Int} {l : List Int} (hn : sz4 l.length) (h : lim M l) : lim (3 * M + 3) (hD l) := by
  have h0 := h.pos
  exact lim_prL hn (by omega) (lim_hD0 h) (fun i a b h2 hi ha hb => ah_small (row_small hn h2 hi).2 ha hb)
theorem lim_unB {M : Int} {n : Nat} {d : List Int} (hn : sz4 n) (h : lim M d) : lim (2 * M + 3) (unB n d) := by
  have h0 := h.pos
  exact lim_prL hn (by omega) h (fun i a b h2 hi ha hb => bk_small (row_small hn h2 hi).2 ha hb)
theorem lim_un {M : Int} {s d : List Int} (hn : sz4 (2 * s.length)) (hs : lim M s) (hd : lim M d) : lim (2 * M + 3) (un s d) := by
  have h0 := hs.pos
  refine lim_mkL (by omega) (fun j hj => ?_)
  have he := lim_unB hn hd
  unfold unE
  by_cases hq : j < 2 * s.length / 2
  · rw [if_pos hq]; have := hs j; have := he j; omega
  · rw [if_neg hq]; have := hs (2 * s.length - 1 - j); have := he (2 * s.length - 1 - j); omega
theorem lim_inter {M : Int} {a b : List Int} (ha : lim M a) (hb : lim M b) : lim M (inter a b) := lim_mkL ha.pos (fun j _ => by
  unfold inE; split
  · exact ha _
  · exact hb _)
theorem lim_ev {M : Int} {c : List Int} (h : lim M c) : lim M (ev c) := lim_mkL h.pos (fun _ _ => h _)
theorem lim_od {M : Int} {c : List Int} (h : lim M c) : lim M (od c) := lim_mkL h.pos (fun _ _ => h _)
/-- How far coefficients go, and how far what is gathered goes. -/
def bS : Nat → Int → Int
  | 0, M => M
  | k + 1, M => bS k (3 * M + 3)
def bG : Nat → Int → Int
  | 0, M => M
  | k + 1, M => 2 * bG k M + 3
theorem bS_mono : ∀ (k : Nat) {M N : Int}, M ≤ N → bS k M ≤ bS k N
  | 0, _, _, h => h
  | k + 1, _, _, h => bS_mono k (by omega)
theorem lim_sp : ∀ (k : Nat) {M : Int} {l : List Int}, k ≤ 4 → l.length = 2 ^ k → lim M l → lim (bS k M) (sp k l)
  | 0, _, _, _, _, h => h
  | k + 1, M, l, hk, hl, h => by
    have h0 := h.pos
    have h1 : (hS l).length = 2 ^ k := by rw [hS_len, hl, Nat.pow_succ]; omega
    have h2 : (hD l).length = 2 ^ k := by rw [hD_len, hl, Nat.pow_succ]; omega
    exact lim_inter ((lim_sp k (by omega) h1 (lim_hS h)).mono (bS_mono k (by omega))) (lim_sp k (by omega) h2 (lim_hD (by rw [hl]; exact sz4_pow hk) h))
theorem lim_ga : ∀ (k : Nat) {M : Int} {c : List Int}, k ≤ 4 → c.length = 2 ^ k → lim M c → lim (bG k M) (ga k c)
  | 0, _, _, _, _, h => h
  | k + 1, M, c, hk, hl, h => by
    have h1 : (ev c).length = 2 ^ k := by rw [ev_len, hl, Nat.pow_succ]; omega
    have h2 : (od c).length = 2 ^ k := by rw [od_len, hl, Nat.pow_succ]; omega
    exact lim_un (by rw [ga_len k _ h1, show 2 * 2 ^ k = 2 ^ (k + 1) by rw [Nat.pow_succ]; omega]; exact sz4_pow hk) (lim_ga k (by omega) h1 (lim_ev h)) (lim_ga k (by omega) h2 (lim_od h))
/-- No coefficient of a block is beyond half of MaxCoef. -/
theorem sp_coef {k : Nat} {l : List Int} (hk : k ≤ 4) (hl : l.length = 2 ^ k) (h : lim 65536 l) : lim 8388608 (sp k l) := by
  refine (lim_sp k hk hl h).mono ?_
  rcases k with _ | _ | _ | _ | _ | k
  · decide
  · decide
  · decide
  · decide
  · decide
  · omega

/-- The common answers. dep: how often a list is halved until one number is left. -/
def dep (n : Nat) : Nat := if n = 2 then 1 else if n = 4 then 2 else if n = 8 then 3 else 4
def is4 (n : Nat) : Bool := decide (n = 2 ∨ n = 4 ∨ n = 8 ∨ n = 16)
def is3 (n : Nat) : Bool := decide (n = 4 ∨ n = 8 ∨ n = 16)
def hdB (v : Int) : Bool := inB (-1073741824) 1073741824 v
def blB (v : Int) : Bool := inB (-65536) 65536 v
def coB (v : Int) : Bool := inB (-16777216) 16777216 v
def hvC (l : List Int) : Int := if is4 l.length = true then (if l.all hdB = true then 0 else 3) else 2
def hvS (l : List Int) : List Int := if hvC l = 0 then hS l else []
def hvD (l : List Int) : List Int := if hvC l = 0 then hD l else []
def uhC (s d : List Int) : Int := if is4 (2 * s.length) = true ∧ d.length = s.length then (if s.all hdB = true ∧ d.all hdB = true then 0 else 3) else 2
def uhL (s d : List Int) : List Int := if uhC s d = 0 then un s d else []
def sbC (l : List Int) : Int := if is3 l.length = true then (if l.all blB = true then 0 else 3) else 2
def sbL (l : List Int) : List Int := if sbC l = 0 then sp (dep l.length) l else []
def gbC (c : List Int) : Int := if is3 c.length = true then (if c.all coB = true then 0 else 3) else 2
def gbL (c : List Int) : List Int := if gbC c = 0 then ga (dep c.length) c else []
theorem dep_pow {n : Nat} (h : sz4 n) : n = 2 ^ dep n ∧ dep n ≤ 4 := by rcases h with rfl | rfl | rfl | rfl <;> decide
theorem is4_sz {n : Nat} (h : is4 n = true) : sz4 n := (of_decide_eq_true h : n = 2 ∨ n = 4 ∨ n = 8 ∨ n = 16)
theorem is3_sz {n : Nat} (h : is3 n = true) : sz4 n := .inr (of_decide_eq_true h)
theorem hv_ok {l : List Int} (h : hvC l = 0) : sz4 l.length ∧ lim 1073741824 l := by
  unfold hvC at h
  split at h
  · rename_i h1
    split at h
    · rename_i h2; exact ⟨is4_sz h1, (lim_all (by omega)).1 h2⟩
    · cases h
  · cases h
theorem uh_ok {s d : List Int} (h : uhC s d = 0) : sz4 (2 * s.length) ∧ d.length = s.length ∧ lim 1073741824 s ∧ lim 1073741824 d := by
  unfold uhC at h
  split at h
  · rename_i h1
    split at h
    · rename_i h2; exact ⟨is4_sz h1.1, h1.2, (lim_all (by omega)).1 h2.1, (lim_all (by omega)).1 h2.2⟩
    · cases h
  · cases h
theorem sb_ok {l : List Int} (h : sbC l = 0) : is3 l.length = true ∧ lim 65536 l := by
  unfold sbC at h
  split at h
  · rename_i h1
    split at h
    · rename_i h2; exact ⟨h1, (lim_all (by omega)).1 h2⟩
    · cases h
  · cases h
theorem gb_ok {c : List Int} (h : gbC c = 0) : is3 c.length = true ∧ lim 16777216 c := by
  unfold gbC at h
  split at h
  · rename_i h1
    split at h
    · rename_i h2; exact ⟨h1, (lim_all (by omega)).1 h2⟩
    · cases h
  · cases h
/-- What the laws say: halves that are united again; blocks that are gathered again, with no code; coefficients that are spread again. -/
theorem law_halves {l : List Int} (h : hvC l = 0) : uhC (hvS l) (hvD l) = 0 → uhL (hvS l) (hvD l) = l := by
  intro hu
  obtain ⟨h1, _⟩ := hv_ok h
  unfold uhL; rw [if_pos hu]
  unfold hvS hvD; rw [if_pos h, if_pos h]
  exact un_halves h1
theorem law_blocks {l : List Int} (h : sbC l = 0) : lim 8388608 (sbL l) ∧ (sbL l).length = l.length ∧ gbC (sbL l) = 0 ∧ gbL (sbL l) = l := by
  obtain ⟨h1, h2⟩ := sb_ok h
  obtain ⟨e1, e2⟩ := dep_pow (is3_sz h1)
  have el : sbL l = sp (dep l.length) l := if_pos h
  have hlen : (sp (dep l.length) l).length = l.length := (sp_len _ _ e1).trans e1.symm
  have hlim := sp_coef e2 e1 h2
  have hg : gbC (sp (dep l.length) l) = 0 := by
    unfold gbC
    have ha : (sp (dep l.length) l).all coB = true := (lim_all (M := 16777216) (by omega)).2 (hlim.mono (by omega))
    rw [hlen, if_pos h1, if_pos ha]
  refine ⟨by rw [el]; exact hlim, by rw [el]; exact hlen, by rw [el]; exact hg, ?_⟩
  rw [el]; unfold gbL; rw [if_pos hg, hlen]
  exact ga_sp _ _ e2 e1
theorem law_coefs {c : List Int} (h : gbC c = 0) (h2 : sbC (gbL c) = 0) : sbL (gbL c) = c := by
  obtain ⟨h1, _⟩ := gb_ok h
  obtain ⟨e1, e2⟩ := dep_pow (is3_sz h1)
  have el : gbL c = ga (dep c.length) c := if_pos h
  have hlen : (ga (dep c.length) c).length = c.length := (ga_len _ _ e1).trans e1.symm
  unfold sbL; rw [if_pos h2, el, hlen]
  exact sp_ga _ _ e2 e1
end Go.Proofs.YtbakmphopgkpmaaDoor.HalM

namespace Go.Proofs.YtbakmphopgkpmaaDoor.HalN
open Go.ChangeShapes Go.WideShapes Go.ChangeAt Go.RowKit Go.Proofs.YtbakmphopgkpmaaDoor.Num Go.Proofs.YtbakmphopgkpmaaDoor.Samp Go.Proofs.YtbakmphopgkpmaaDoor.TurM Go.Proofs.YtbakmphopgkpmaaDoor.HalM

theorem is3_le {n : Nat} (h : is3 n = true) : n ≤ 16 := by have := of_decide_eq_true h; omega
theorem sbL_small (l : List Int) : (sbL l).length ≤ 1048576 := by
  by_cases h : sbC l = 0
  · have := (law_blocks h).2.1
    have := is3_le (sb_ok h).1
    omega
  · rw [show sbL l = [] from if_neg h]; decide
theorem gbL_small (c : List Int) : (gbL c).length ≤ 1048576 := by
  by_cases h : gbC c = 0
  · obtain ⟨e1, _⟩ := dep_pow (is3_sz (gb_ok h).1)
    have := is3_le (gb_ok h).1
    rw [show gbL c = ga (dep c.length) c from if_pos h, ga_len _ _ e1, ← e1]; omega
  · rw [show gbL c = [] from if_neg h]; decide
theorem sz4_16 {n : Nat} (h : sz4 n) : n ≤ 16 := by rcases h with rfl | rfl | rfl | rfl <;> decide
theorem uhL_small (s d : List Int) : (uhL s d).length ≤ 1048576 := by
  by_cases h : uhC s d = 0
  · have := sz4_16 (uh_ok h).1
    rw [show uhL s d = un s d from if_pos h, un_len]; omega
  · rw [show uhL s d = [] from if_neg h]; decide
theorem hvS_small (l : List Int) : (hvS l).length ≤ 1048576 := by
  by_cases h : hvC l = 0
  · have := sz4_16 (hv_ok h).1
    rw [show hvS l = hS l from if_pos h, hS_len]; omega
  · rw [show hvS l = [] from if_neg h]; decide
theorem hvD_small (l : List Int) : (hvD l).length ≤ 1048576 := by
  by_cases h : hvC l = 0
  · have := sz4_16 (hv_ok h).1
    rw [show hvD l = hD l from if_pos h, hD_len]; omega
  · rw [show hvD l = [] from if_neg h]; decide
end Go.Proofs.YtbakmphopgkpmaaDoor.HalN

namespace Go.Proofs.YtbakmphopgkpmaaDoor.MixS
open Go.ChangeShapes Go.WideShapes Go.ChangeAt Go.RowKit Go.Proofs.YtbakmphopgkpmaaDoor.Num Go.Proofs.YtbakmphopgkpmaaDoor.Sli Go.Proofs.YtbakmphopgkpmaaDoor.Div Go.Proofs.YtbakmphopgkpmaaDoor.Samp Go.Proofs.YtbakmphopgkpmaaDoor.TurM

theorem l5Mix_calls (a b : Int) (w : World) (ha : -137438953472 ≤ a ∧ a ≤ 137438953472) (hb : -137438953472 ≤ b ∧ b ≤ 137438953472) :
    Calls Tryd.prog 128 #[.int .i64 a, .int .i64 b] w fun e w' => e = .returned (.tuple #[.int .i64 (b + (a - b) / 2), .int .i64 (a - b)]) ∧ w' = w := by
  have HF := hid l1Floor_calls
  have hq : -274877906944 ≤ (a - b) / 2 ∧ (a - b) / 2 ≤ 274877906944 := by omega
  go_enter Tryd.func128, Tryd.ntmps128
  go_wp2_with (go_at_call 131; refine (HF.out _ _ _ (by omega) (by omega) (by omega) (by omega)).mono ?_; rintro e w' ⟨rfl, rfl⟩)
  exact bodyPost_ret (v := .tuple #[.int .i64 (b + (a - b) / 2), .int .i64 (a - b)]) (by simp [results, Tryd.results128, go_sem]) rfl ⟨rfl, rfl⟩
theorem l5Part_calls (a b : Int) (w : World) (ha : -137438953472 ≤ a ∧ a ≤ 137438953472) (hb : -137438953472 ≤ b ∧ b ≤ 137438953472) :
    Calls Tryd.prog 125 #[.int .i64 a, .int .i64 b] w fun e w' => e = .returned (.tuple #[.int .i64 (a - b / 2 + b), .int .i64 (a - b / 2)]) ∧ w' = w := by
  have HF := hid l1Floor_calls
  have hq : -274877906944 ≤ b / 2 ∧ b / 2 ≤ 274877906944 := by omega
  go_enter Tryd.func125, Tryd.ntmps125
  go_wp2_with (go_at_call 131; refine (HF.out _ _ _ (by omega) (by omega) (by omega) (by omega)).mono ?_; rintro e w' ⟨rfl, rfl⟩)
  exact bodyPost_ret (v := .tuple #[.int .i64 (a - b / 2 + b), .int .i64 (a - b / 2)]) (by simp [results, Tryd.results125, go_sem]) rfl ⟨rfl, rfl⟩
end Go.Proofs.YtbakmphopgkpmaaDoor.MixS

namespace Go.Proofs.YtbakmphopgkpmaaDoor.LapM
open Go.ChangeShapes Go.WideShapes Go.ChangeAt Go.RowKit Go.Proofs.YtbakmphopgkpmaaDoor.Num Go.Proofs.YtbakmphopgkpmaaDoor.Samp Go.Proofs.YtbakmphopgkpmaaDoor.SampF Go.Proofs.YtbakmphopgkpmaaDoor.TurM Go.Proofs.YtbakmphopgkpmaaDoor.HalM

/-- Both sides of a seam, each changed pair by pair by F. -/
def smA (F : Nat → Int → Int → Int × Int) (h : Nat) (l f : List Int) : List Int := mkL h (fun j => (F (h - 1 - j) (l.getD j 0) (f.getD (h - 1 - j) 0)).1)
def smB (F : Nat → Int → Int → Int × Int) (h : Nat) (l f : List Int) : List Int := mkL h (fun i => (F i (l.getD (h - 1 - i) 0) (f.getD i 0)).2)
theorem smA_len (F : Nat → Int → Int → Int × Int) (h : Nat) (l f : List Int) : (smA F h l f).length = h := mkL_len _ _
theorem smB_len (F : Nat → Int → Int → Int × Int) (h : Nat) (l f : List Int) : (smB F h l f).length = h := mkL_len _ _
theorem sm_inv {F G : Nat → Int → Int → Int × Int} (hFG : ∀ i a b, G i (F i a b).1 (F i a b).2 = (a, b)) {h : Nat} {l f : List Int} (hl : l.length = h) (hf : f.length = h) :
    smA G h (smA F h l f) (smB F h l f) = l ∧ smB G h (smA F h l f) (smB F h l f) = f := by
  constructor
  · apply ext_g (by rw [smA_len, hl])
    intro j hj
    rw [smA_len] at hj
    rw [show (smA G h (smA F h l f) (smB F h l f)).getD j 0 = (G (h - 1 - j) ((smA F h l f).getD j 0) ((smB F h l f).getD (h - 1 - j) 0)).1 from mkL_get _ hj]
    rw [show (smA F h l f).getD j 0 = (F (h - 1 - j) (l.getD j 0) (f.getD (h - 1 - j) 0)).1 from mkL_get _ hj]
    rw [show (smB F h l f).getD (h - 1 - j) 0 = (F (h - 1 - j) (l.getD (h - 1 - (h - 1 - j)) 0) (f.getD (h - 1 - j) 0)).2 from mkL_get _ (by omega)]
    rw [show h - 1 - (h - 1 - j) = j by omega, hFG]
  · apply ext_g (by rw [smB_len, hf])
    intro j hj
    rw [smB_len] at hj
    rw [show (smB G h (smA F h l f) (smB F h l f)).getD j 0 = (G j ((smA F h l f).getD (h - 1 - j) 0) ((smB F h l f).getD j 0)).2 from mkL_get _ hj]
    rw [show (smB F h l f).getD j 0 = (F j (l.getD (h - 1 - j) 0) (f.getD j 0)).2 from mkL_get _ hj]
    rw [show (smA F h l f).getD (h - 1 - j) 0 = (F (h - 1 - (h - 1 - j)) (l.getD (h - 1 - j) 0) (f.getD (h - 1 - (h - 1 - j)) 0)).1 from mkL_get _ (by omega)]
    rw [show h - 1 - (h - 1 - j) = j by omega, hFG]
/-- What is turned behind k rounds of a seam: the first list is written from its end on. -/
def saS (m k : Nat) (v : Nat → Int) : List Int := mkL m (fun j => if m - 1 - j < k then v j else 0)
theorem saS_len (m k : Nat) (v : Nat → Int) : (saS m k v).length = m := mkL_len _ _
theorem saS_zero (m : Nat) (v : Nat → Int) : saS m 0 v = List.replicate m 0 := by
  apply ext_g (by rw [saS_len, List.length_replicate])
  intro i hi
  rw [saS_len] at hi
  rw [show (saS m 0 v).getD i 0 = if m - 1 - i < 0 then v i else 0 from mkL_get _ hi, if_neg (by omega)]
  simp [List.getD_eq_getElem?_getD, hi]
theorem saS_end (m : Nat) (v : Nat → Int) : saS m m v = mkL m v := mkL_congr (fun i hi => if_pos (by omega))
theorem saS_set {m k : Nat} (hk : k < m) (v : Nat → Int) : (saS m k v).set (m - 1 - k) (v (m - 1 - k)) = saS m (k + 1) v := by
  apply ext_g (by simp [saS_len])
  intro j hj
  simp only [List.length_set, saS_len] at hj
  rw [getD_set _ _ _ _ (by simpa [saS_len] using hj)]
  unfold saS
  rw [mkL_get _ hj, mkL_get _ hj]
  by_cases e : m - 1 - k = j
  · subst e; rw [if_pos rfl, if_pos (by omega)]
  · rw [if_neg e]
    by_cases e2 : m - 1 - j < k
    · rw [if_pos e2, if_pos (by omega)]
    · rw [if_neg e2, if_neg (by omega)]

/-- Half of a size. -/
def hN (s : Int) : Nat := s.toNat / 2
def tlB (v : Int) : Bool := inB (-268435456) 268435456 v
/-- The codes of laps and synths. -/
def lfC (s : Int) (half rest : List Int) : Int := if szF s = 0 then (if half.length = hN s ∧ rest.length = hN s then (if half.all blB = true ∧ rest.all sampB = true then 0 else 3) else 2) else 3
def syC (s : Int) (head tail : List Int) : Int := if szF s = 0 then (if head.length = hN s ∧ tail.length = hN s then (if head.all hdB = true ∧ tail.all tlB = true then 0 else 3) else 2) else 3
/-- What is fed: the code, the next lap's halves, the coefficients. -/
def fdC (s : Int) (half rest fr : List Int) : Int := if lfC s half rest = 0 then smF s fr else lfC s half rest
def fdT (s : Int) (rest fr : List Int) : List Int := smA (ahF s.toNat) (hN s) rest (fr.take (hN s))
def fdH (s : Int) (rest fr : List Int) : List Int := smB (ahF s.toNat) (hN s) rest (fr.take (hN s))
def fdK (s : Int) (half rest fr : List Int) : List Int := sp (dep s.toNat) (half ++ fdT s rest fr)
/-- What is played: the code, the next synth's halves, the last half of the frame. -/
def plC (s : Int) (head tail co : List Int) : Int := if syC s head tail = 0 then (if (co.length : Int) = s then gbC co else 2) else syC s head tail
def plB (s : Int) (co : List Int) : List Int := ga (dep s.toNat) co
def plT (s : Int) (tail co : List Int) : List Int := smA (bkF s.toNat) (hN s) tail ((plB s co).take (hN s))
def plH (s : Int) (tail co : List Int) : List Int := smB (bkF s.toNat) (hN s) tail ((plB s co).take (hN s))
/-- A size that is one. -/
theorem sz_nat {s : Int} (h : szF s = 0) : is3 s.toNat = true ∧ (s.toNat : Int) = s ∧ s.toNat = 2 * hN s ∧ 2 ≤ hN s ∧ hN s ≤ 8 ∧ s / 2 = (hN s : Int) := by
  rcases sz_cases h with rfl | rfl | rfl <;> decide
/-- Samples. -/
def smL (l : List Int) : Prop := ∀ i, -32768 ≤ l.getD i 0 ∧ l.getD i 0 ≤ 32767
theorem smL_all {l : List Int} : l.all sampB = true ↔ smL l := by
  rw [List.all_eq_true]
  constructor
  · intro h i
    by_cases hi : i < l.length
    · rw [List.getD_eq_getElem?_getD, List.getElem?_eq_getElem hi, Option.getD_some]
      exact of_inB (h _ (List.getElem_mem hi))
    · rw [List.getD_eq_getElem?_getD, List.getElem?_eq_none (by omega), Option.getD_none]; omega
  · intro h x hx
    obtain ⟨i, hi, rfl⟩ := List.getElem_of_mem hx
    have := h i
    rw [List.getD_eq_getElem?_getD, List.getElem?_eq_getElem hi, Option.getD_some] at this
    exact inB_yes this.1 this.2
theorem lim_tl {l : List Int} : l.all tlB = true ↔ lim 268435456 l := lim_all (by omega)
theorem lim_hd {l : List Int} : l.all hdB = true ↔ lim 1073741824 l := lim_all (by omega)
theorem lim_bl {l : List Int} : l.all blB = true ↔ lim 65536 l := lim_all (by omega)
theorem smL.lim {l : List Int} (h : smL l) : lim 32768 l := fun i => by have := h i; omega
theorem take_get (l : List Int) (h i : Nat) : (l.take h).getD i 0 = if i < h then l.getD i 0 else 0 := by
  by_cases e : i < h
  · rw [if_pos e, List.getD_eq_getElem?_getD, List.getD_eq_getElem?_getD, List.getElem?_take_of_lt e]
  · rw [if_neg e, List.getD_eq_getElem?_getD, List.getElem?_eq_none (by rw [List.length_take]; omega), Option.getD_none]
theorem drop_get (l : List Int) (h i : Nat) : (l.drop h).getD i 0 = l.getD (h + i) 0 := by
  rw [List.getD_eq_getElem?_getD, List.getD_eq_getElem?_getD, List.getElem?_drop]
theorem lim_take {M : Int} {l : List Int} (h : lim M l) (n : Nat) : lim M (l.take n) := fun i => by
  rw [take_get]; split
  · exact h i
  · have := h.pos; omega
theorem lim_drop {M : Int} {l : List Int} (h : lim M l) (n : Nat) : lim M (l.drop n) := fun i => by rw [drop_get]; exact h _
theorem smL_take {l : List Int} (h : smL l) (n : Nat) : smL (l.take n) := fun i => by
  rw [take_get]; split
  · exact h i
  · omega
theorem smL_drop {l : List Int} (h : smL l) (n : Nat) : smL (l.drop n) := fun i => by rw [drop_get]; exact h _
theorem lim_app {M : Int} {a b : List Int} (ha : lim M a) (hb : lim M b) : lim M (a ++ b) := fun i => by
  by_cases e : i < a.length
  · rw [List.getD_eq_getElem?_getD, List.getElem?_append_left e, ← List.getD_eq_getElem?_getD]; exact ha i
  · rw [List.getD_eq_getElem?_getD, List.getElem?_append_right (by omega), ← List.getD_eq_getElem?_getD]; exact hb _

/-- How far a sample goes when it is turned. -/
theorem ten_near (v : Int) : -512 ≤ 1024 * tenV v - v ∧ 1024 * tenV v - v ≤ 512 := by unfold tenV; omega
theorem ah_smp {s n a b : Int} (h : tOk s n = true) (ha : -32768 ≤ a ∧ a ≤ 32768) (hb : -32768 ≤ b ∧ b ≤ 32768) :
    (-65536 ≤ ahA (pV s n) (uV s n) a b ∧ ahA (pV s n) (uV s n) a b ≤ 65536) ∧ (-65536 ≤ ahB (pV s n) (uV s n) a b ∧ ahB (pV s n) (uV s n) a b ≤ 65536) := by
  obtain ⟨k, hk, _, _, e1, e2⟩ := ok_cases h
  rw [e1, e2]
  clear h e1 e2
  unfold ahA ahB
  have t1 := ten_near (rP k * b)
  generalize tenV (rP k * b) = x at *
  have t2 := ten_near (rU k * (a - x))
  generalize tenV (rU k * (a - x)) = y at *
  have t3 := ten_near (rP k * (b + y))
  generalize tenV (rP k * (b + y)) = z at *
  rcases k with _ | _ | _ | _ | _ | _ | _ | _ | _ | _ | _ | _ | _ | _ | k
  all_goals first | omega | (simp only [rP, rU, rowL, List.getD_cons_succ, List.getD_cons_zero] at t1 t2 t3; omega)
/-- How far numbers go when they are turned back. -/
theorem bk_far {p u a b M : Int} (hp : 1 ≤ p ∧ p ≤ 395 ∧ 1 ≤ u ∧ u ≤ 688) (hM : 1000 ≤ M) (ha : -M ≤ a ∧ a ≤ M) (hb : -M ≤ b ∧ b ≤ M) :
    (-(3 * M) ≤ bkA p u a b ∧ bkA p u a b ≤ 3 * M) ∧ (-(3 * M) ≤ bkB p u a b ∧ bkB p u a b ≤ 3 * M) := by
  unfold bkA bkB
  have m1 := mul_bd (P := 395) (B := M) (by omega) hp.2.1 hb.1 hb.2 (by omega)
  have t1 := ten_bd m1.1 m1.2
  generalize tenV (p * b) = x at *
  have m2 := mul_bd (p := u) (b := a + x) (P := 688) (B := M + (395 * M / 1024 + 1)) (by omega) hp.2.2.2 (by omega) (by omega) (by omega)
  have t2 := ten_bd m2.1 m2.2
  generalize tenV (u * (a + x)) = y at *
  have m3 := mul_bd (p := p) (b := b - y) (P := 395) (B := M + (688 * (M + (395 * M / 1024 + 1)) / 1024 + 1)) (by omega) hp.2.1 (by omega) (by omega) (by omega)
  have t3 := ten_bd m3.1 m3.2
  generalize tenV (p * (b - y)) = z at *
  clear m1 m2 m3
  omega
theorem bk_near {p u a b M : Int} (hp : 1 ≤ p ∧ p ≤ 178 ∧ 1 ≤ u ∧ u ≤ 345) (ha : -M ≤ a ∧ a ≤ M) (hb : -M ≤ b ∧ b ≤ M) :
    (-(3 * M / 2 + 4) ≤ bkA p u a b ∧ bkA p u a b ≤ 3 * M / 2 + 4) ∧ (-(3 * M / 2 + 4) ≤ bkB p u a b ∧ bkB p u a b ≤ 3 * M / 2 + 4) := by
  unfold bkA bkB
  have m1 := mul_bd (P := 178) (B := M) (by omega) hp.2.1 hb.1 hb.2 (by omega)
  have t1 := ten_bd m1.1 m1.2
  generalize tenV (p * b) = x at *
  have m2 := mul_bd (p := u) (b := a + x) (P := 345) (B := M + (178 * M / 1024 + 1)) (by omega) hp.2.2.2 (by omega) (by omega) (by omega)
  have t2 := ten_bd m2.1 m2.2
  generalize tenV (u * (a + x)) = y at *
  have m3 := mul_bd (p := p) (b := b - y) (P := 178) (B := M + (345 * (M + (178 * M / 1024 + 1)) / 1024 + 1)) (by omega) hp.2.1 (by omega) (by omega) (by omega)
  have t3 := ten_bd m3.1 m3.2
  generalize tenV (p * (b - y)) = z at *
  clear m1 m2 m3
  omega
theorem lim_un2 {M : Int} {s d : List Int} (hn : sz4 (2 * s.length)) (hM : 40 ≤ M) (hs : lim M s) (hd : lim M d) : lim (2 * M) (un s d) := by
  refine lim_mkL (by omega) (fun j hj => ?_)
  have he : lim (3 * M / 2 + 4) (unB (2 * s.length) d) := lim_prL hn (by omega) hd (fun i a b h2 hi ha hb => bk_near (row_small hn h2 hi).2 ha hb)
  unfold unE
  by_cases hq : j < 2 * s.length / 2
  · rw [if_pos hq]; have := hs j; have := he j; omega
  · rw [if_neg hq]; have := hs (2 * s.length - 1 - j); have := he (2 * s.length - 1 - j); omega
theorem lim_ga2 : ∀ (k : Nat) {M : Int} {c : List Int}, k ≤ 4 → 40 ≤ M → c.length = 2 ^ k → lim M c → lim (2 ^ k * M) (ga k c)
  | 0, M, c, _, _, _, h => by rw [show (2 : Int) ^ 0 * M = M by omega]; exact h
  | k + 1, M, c, hk, hM, hl, h => by
    have h1 : (ev c).length = 2 ^ k := by rw [ev_len, hl, Nat.pow_succ]; omega
    have h2 : (od c).length = 2 ^ k := by rw [od_len, hl, Nat.pow_succ]; omega
    have e : (2 : Int) ^ (k + 1) * M = 2 * (2 ^ k * M) := by rw [Int.pow_succ, Int.mul_comm ((2 : Int) ^ k) 2, Int.mul_assoc]
    have hp : (1 : Int) ≤ 2 ^ k := by rcases k with _ | _ | _ | _ | k <;> first | decide | omega
    have hge : 40 ≤ 2 ^ k * M := Int.le_trans hM (by have := Int.mul_le_mul_of_nonneg_right hp (show 0 ≤ M by omega); omega)
    rw [e]
    exact lim_un2 (by rw [ga_len k _ h1, show 2 * 2 ^ k = 2 ^ (k + 1) by rw [Nat.pow_succ]; omega]; exact sz4_pow hk) hge (lim_ga2 k (by omega) hM h1 (lim_ev h)) (lim_ga2 k (by omega) hM h2 (lim_od h))
theorem turn_at {s : Int} (h : szF s = 0) {i : Nat} (hi : i < hN s) : tOk (s.toNat : Int) (i : Int) = true := by
  obtain ⟨_, e, _, _, _, e2⟩ := sz_nat h
  rw [e]
  exact decide_eq_true ⟨h, by omega, by omega⟩
end Go.Proofs.YtbakmphopgkpmaaDoor.LapM

namespace Go.Proofs.YtbakmphopgkpmaaDoor.LapN
open Go.ChangeShapes Go.WideShapes Go.ChangeAt Go.RowKit Go.Proofs.YtbakmphopgkpmaaDoor.Num Go.Proofs.YtbakmphopgkpmaaDoor.Samp Go.Proofs.YtbakmphopgkpmaaDoor.SampF Go.Proofs.YtbakmphopgkpmaaDoor.TurM Go.Proofs.YtbakmphopgkpmaaDoor.HalM Go.Proofs.YtbakmphopgkpmaaDoor.LapM

theorem lf_ok {s : Int} {half rest : List Int} (h : lfC s half rest = 0) : szF s = 0 ∧ half.length = hN s ∧ rest.length = hN s ∧ lim 65536 half ∧ smL rest := by
  unfold lfC at h
  split at h
  · rename_i h0
    split at h
    · rename_i h1
      split at h
      · rename_i h2; exact ⟨h0, h1.1, h1.2, lim_bl.1 h2.1, smL_all.1 h2.2⟩
      · cases h
    · cases h
  · cases h
theorem lf_yes {s : Int} {half rest : List Int} (h0 : szF s = 0) (h1 : half.length = hN s) (h2 : rest.length = hN s) (h3 : lim 65536 half) (h4 : smL rest) : lfC s half rest = 0 := by
  unfold lfC; rw [if_pos h0, if_pos ⟨h1, h2⟩, if_pos ⟨lim_bl.2 h3, smL_all.2 h4⟩]
theorem sy_ok {s : Int} {head tail : List Int} (h : syC s head tail = 0) : szF s = 0 ∧ head.length = hN s ∧ tail.length = hN s ∧ lim 1073741824 head ∧ lim 268435456 tail := by
  unfold syC at h
  split at h
  · rename_i h0
    split at h
    · rename_i h1
      split at h
      · rename_i h2; exact ⟨h0, h1.1, h1.2, lim_hd.1 h2.1, lim_tl.1 h2.2⟩
      · cases h
    · cases h
  · cases h
theorem sy_yes {s : Int} {head tail : List Int} (h0 : szF s = 0) (h1 : head.length = hN s) (h2 : tail.length = hN s) (h3 : lim 1073741824 head) (h4 : lim 268435456 tail) : syC s head tail = 0 := by
  unfold syC; rw [if_pos h0, if_pos ⟨h1, h2⟩, if_pos ⟨lim_hd.2 h3, lim_tl.2 h4⟩]
theorem sm_ok {s : Int} {fr : List Int} (h : smF s fr = 0) : szF s = 0 ∧ (fr.length : Int) = s ∧ smL fr := by
  unfold smF at h
  split at h
  · rename_i h0
    split at h
    · rename_i h1
      split at h
      · rename_i h2; exact ⟨h0, h1, smL_all.1 h2⟩
      · cases h
    · cases h
  · cases h
theorem sm_yes {s : Int} {fr : List Int} (h0 : szF s = 0) (h1 : (fr.length : Int) = s) (h2 : smL fr) : smF s fr = 0 := by
  unfold smF; rw [if_pos h0, if_pos h1, if_pos (smL_all.2 h2)]
theorem lf_ne {s : Int} {half rest : List Int} : lfC s half rest = 0 ∨ lfC s half rest = 2 ∨ lfC s half rest = 3 := by
  unfold lfC; repeat' split
  all_goals simp
theorem sy_ne {s : Int} {head tail : List Int} : syC s head tail = 0 ∨ syC s head tail = 2 ∨ syC s head tail = 3 := by
  unfold syC; repeat' split
  all_goals simp
theorem fd_ok {s : Int} {half rest fr : List Int} (h : fdC s half rest fr = 0) : lfC s half rest = 0 ∧ smF s fr = 0 := by
  unfold fdC at h
  split at h
  · rename_i h0; exact ⟨h0, h⟩
  · rename_i h0; exact absurd h h0
theorem pl_ok {s : Int} {head tail co : List Int} (h : plC s head tail co = 0) : syC s head tail = 0 ∧ (co.length : Int) = s ∧ gbC co = 0 := by
  unfold plC at h
  split at h
  · rename_i h0
    split at h
    · rename_i h1; exact ⟨h0, h1, h⟩
    · cases h
  · rename_i h0; exact absurd h h0
theorem lim_smA {F : Nat → Int → Int → Int × Int} {h : Nat} {l f : List Int} {M N : Int} (hN : 0 ≤ N) (hl : lim M l) (hf : lim M f)
    (hF : ∀ i a b, i < h → (-M ≤ a ∧ a ≤ M) → (-M ≤ b ∧ b ≤ M) → (-N ≤ (F i a b).1 ∧ (F i a b).1 ≤ N)) : lim N (smA F h l f) :=
  lim_mkL hN (fun _ _ => hF _ _ _ (by omega) (hl _) (hf _))
theorem lim_smB {F : Nat → Int → Int → Int × Int} {h : Nat} {l f : List Int} {M N : Int} (hN : 0 ≤ N) (hl : lim M l) (hf : lim M f)
    (hF : ∀ i a b, i < h → (-M ≤ a ∧ a ≤ M) → (-M ≤ b ∧ b ≤ M) → (-N ≤ (F i a b).2 ∧ (F i a b).2 ≤ N)) : lim N (smB F h l f) :=
  lim_mkL hN (fun _ hi => hF _ _ _ hi (hl _) (hf _))
/-- Both sides of a seam between samples. -/
theorem seam_lim {s : Int} (h0 : szF s = 0) {l f : List Int} (hl : smL l) (hf : smL f) : lim 65536 (smA (ahF s.toNat) (hN s) l f) ∧ lim 65536 (smB (ahF s.toNat) (hN s) l f) :=
  ⟨lim_smA (by omega) hl.lim hf.lim (fun _ _ _ hi ha hb => (ah_smp (turn_at h0 hi) ha hb).1), lim_smB (by omega) hl.lim hf.lim (fun _ _ _ hi ha hb => (ah_smp (turn_at h0 hi) ha hb).2)⟩
theorem dep_of {s : Int} (h0 : szF s = 0) : s.toNat = 2 ^ dep s.toNat ∧ dep s.toNat ≤ 4 := dep_pow (is3_sz (sz_nat h0).1)
/-- The block that is spread. -/
theorem block_ok {s : Int} {half rest fr : List Int} (h : fdC s half rest fr = 0) : (half ++ fdT s rest fr).length = 2 ^ dep s.toNat ∧ lim 65536 (half ++ fdT s rest fr) := by
  obtain ⟨h1, h2⟩ := fd_ok h
  obtain ⟨h0, l1, l2, b1, b2⟩ := lf_ok h1
  obtain ⟨_, l3, b3⟩ := sm_ok h2
  obtain ⟨_, e1, e2, _⟩ := sz_nat h0
  have ht : (fdT s rest fr).length = hN s := smA_len _ _ _ _
  refine ⟨?_, lim_app b1 (seam_lim h0 b2 (smL_take b3 _)).1⟩
  rw [List.length_append, l1, ht, ← (dep_of h0).1]; omega
/-- What is fed leaves a right lap, and coefficients of its size. -/
theorem fed_right {s : Int} {half rest fr : List Int} (h : fdC s half rest fr = 0) : lfC s (fdH s rest fr) (fr.drop (hN s)) = 0 ∧ (fdK s half rest fr).length = s.toNat ∧ lim 8388608 (fdK s half rest fr) := by
  obtain ⟨h1, h2⟩ := fd_ok h
  obtain ⟨h0, l1, l2, b1, b2⟩ := lf_ok h1
  obtain ⟨_, l3, b3⟩ := sm_ok h2
  obtain ⟨_, e1, e2, _⟩ := sz_nat h0
  obtain ⟨k1, k2⟩ := block_ok h
  refine ⟨lf_yes h0 (smB_len _ _ _ _) (by rw [List.length_drop]; omega) (seam_lim h0 b2 (smL_take b3 _)).2 (smL_drop b3 _), ?_, sp_coef (dep_of h0).2 k1 k2⟩
  unfold fdK; rw [sp_len _ _ k1]; exact (dep_of h0).1.symm
/-- What is gathered of coefficients of a right size. -/
theorem gath_ok {s : Int} {co : List Int} (h0 : szF s = 0) (hl : (co.length : Int) = s) (hg : gbC co = 0) : co.length = 2 ^ dep s.toNat ∧ (plB s co).length = s.toNat ∧ lim 268435456 (plB s co) := by
  obtain ⟨d1, d2⟩ := dep_of h0
  have hc : co.length = 2 ^ dep s.toNat := by rw [← d1]; omega
  refine ⟨hc, ?_, ?_⟩
  · unfold plB; rw [ga_len _ _ hc]; exact d1.symm
  · refine (lim_ga2 (dep s.toNat) d2 (by omega) hc (gb_ok hg).2).mono ?_
    generalize dep s.toNat = k at d2
    rcases k with _ | _ | _ | _ | _ | k <;> first | decide | omega
theorem back_lim {s : Int} (h0 : szF s = 0) {l f : List Int} (hl : lim 268435456 l) (hf : lim 268435456 f) : lim 1073741824 (smA (bkF s.toNat) (hN s) l f) ∧ lim 1073741824 (smB (bkF s.toNat) (hN s) l f) :=
  ⟨lim_smA (by omega) hl hf (fun _ _ _ hi ha hb => by have := (bk_far (pu_bd (turn_at h0 hi)) (by omega) ha hb).1; show _ ≤ bkA _ _ _ _ ∧ bkA _ _ _ _ ≤ _; omega), lim_smB (by omega) hl hf (fun _ _ _ hi ha hb => by have := (bk_far (pu_bd (turn_at h0 hi)) (by omega) ha hb).2; show _ ≤ bkB _ _ _ _ ∧ bkB _ _ _ _ ≤ _; omega)⟩
/-- What is played leaves a right synth, and a frame of its size. -/
theorem played_right {s : Int} {head tail co : List Int} (h : plC s head tail co = 0) : syC s (plH s tail co) ((plB s co).drop (hN s)) = 0 ∧ (head ++ plT s tail co).length = s.toNat := by
  obtain ⟨h1, hl, hg⟩ := pl_ok h
  obtain ⟨h0, l1, l2, b1, b2⟩ := sy_ok h1
  obtain ⟨_, e1, e2, _⟩ := sz_nat h0
  obtain ⟨c1, c2, c3⟩ := gath_ok h0 hl hg
  refine ⟨sy_yes h0 (smB_len _ _ _ _) (by rw [List.length_drop, c2]; omega) (back_lim h0 b2 (lim_take c3 _)).2 (lim_drop c3 _), ?_⟩
  rw [List.length_append, l1, show (plT s tail co).length = hN s from smA_len _ _ _ _]; omega

/-- A lap and a synth that were fed f0 and f1 last, and played so far. -/
structure LI (s : Int) (f0 f1 half rest head tail : List Int) : Prop where
  z : szF s = 0
  n0 : (f0.length : Int) = s
  n1 : (f1.length : Int) = s
  s0 : smL f0
  s1 : smL f1
  half : half = smB (ahF s.toNat) (hN s) (f0.drop (hN s)) (f1.take (hN s))
  tail : tail = smA (ahF s.toNat) (hN s) (f0.drop (hN s)) (f1.take (hN s))
  rest : rest = f1.drop (hN s)
  head : head = f0.take (hN s)
theorem smL_zero (n : Nat) : smL (List.replicate n 0) := fun i => by
  by_cases h : i < n
  · simp [List.getD_eq_getElem?_getD, h]
  · simp [List.getD_eq_getElem?_getD, h]
theorem zero_get (n i : Nat) : (List.replicate n (0 : Int)).getD i 0 = 0 := by
  by_cases h : i < n
  · simp [List.getD_eq_getElem?_getD, h]
  · simp [List.getD_eq_getElem?_getD, h]
theorem ah_zero (n i : Nat) : ahF n i 0 0 = (0, 0) := by
  unfold ahF ahA ahB
  simp [tenV]
theorem LI.new {s : Int} (h0 : szF s = 0) : LI s (List.replicate s.toNat 0) (List.replicate s.toNat 0) (List.replicate (hN s) 0) (List.replicate (hN s) 0) (List.replicate (hN s) 0) (List.replicate (hN s) 0) := by
  obtain ⟨_, e1, e2, _⟩ := sz_nat h0
  refine ⟨h0, by rw [List.length_replicate]; exact e1, by rw [List.length_replicate]; exact e1, smL_zero _, smL_zero _, ?_, ?_, ?_, ?_⟩
  · apply ext_g (by rw [smB_len, List.length_replicate])
    intro i hi
    rw [List.length_replicate] at hi
    rw [zero_get, show (smB (ahF s.toNat) (hN s) (List.drop (hN s) (List.replicate s.toNat 0)) (List.take (hN s) (List.replicate s.toNat 0))).getD i 0 = _ from mkL_get _ hi, drop_get, take_get, zero_get, zero_get]
    rw [if_pos hi, ah_zero]
  · apply ext_g (by rw [smA_len, List.length_replicate])
    intro i hi
    rw [List.length_replicate] at hi
    rw [zero_get, show (smA (ahF s.toNat) (hN s) (List.drop (hN s) (List.replicate s.toNat 0)) (List.take (hN s) (List.replicate s.toNat 0))).getD i 0 = _ from mkL_get _ hi, drop_get, take_get, zero_get, zero_get]
    rw [if_pos (by omega), ah_zero]
  · rw [List.drop_replicate, show s.toNat - hN s = hN s by omega]
  · rw [List.take_replicate, show min (hN s) s.toNat = hN s by omega]
theorem LI.faults {s : Int} {f0 f1 half rest head tail : List Int} (h : LI s f0 f1 half rest head tail) : lfC s half rest = 0 ∧ syC s head tail = 0 := by
  obtain ⟨_, e1, e2, _⟩ := sz_nat h.z
  have hd := seam_lim h.z (smL_drop h.s0 (hN s)) (smL_take h.s1 (hN s))
  have n0 := h.n0
  have n1 := h.n1
  constructor
  · refine lf_yes h.z ?_ ?_ ?_ ?_
    · rw [h.half]; exact smB_len _ _ _ _
    · rw [h.rest, List.length_drop]; omega
    · rw [h.half]; exact hd.2
    · rw [h.rest]; exact smL_drop h.s1 _
  · refine sy_yes h.z ?_ ?_ ?_ ?_
    · rw [h.head, List.length_take]; omega
    · rw [h.tail]; exact smA_len _ _ _ _
    · rw [h.head]; exact (smL_take h.s0 _).lim.mono (by omega)
    · rw [h.tail]; exact hd.1.mono (by omega)
/-- One step: the frame f2 is fed, its block is played, and f0 is told. -/
theorem LI.step {s : Int} {f0 f1 f2 half rest head tail : List Int} (h : LI s f0 f1 half rest head tail) (n2 : (f2.length : Int) = s) (s2 : smL f2) :
    fdC s half rest f2 = 0 ∧ plC s head tail (fdK s half rest f2) = 0 ∧ head ++ plT s tail (fdK s half rest f2) = f0 ∧
    LI s f1 f2 (fdH s rest f2) (f2.drop (hN s)) (plH s tail (fdK s half rest f2)) ((plB s (fdK s half rest f2)).drop (hN s)) := by
  obtain ⟨hl, hy⟩ := h.faults
  obtain ⟨h3, e1, e2, _⟩ := sz_nat h.z
  have hf : fdC s half rest f2 = 0 := by unfold fdC; rw [if_pos hl]; exact sm_yes h.z n2 s2
  obtain ⟨r1, r2, r3⟩ := fed_right hf
  obtain ⟨k1, k2⟩ := block_ok hf
  obtain ⟨d1, d2⟩ := dep_of h.z
  have n0 := h.n0
  have n1 := h.n1
  have hg : gbC (fdK s half rest f2) = 0 := by
    unfold gbC
    rw [r2, if_pos h3, if_pos (show (fdK s half rest f2).all coB = true from (lim_all (M := 16777216) (by omega)).2 (r3.mono (by omega)))]
  have hp : plC s head tail (fdK s half rest f2) = 0 := by unfold plC; rw [if_pos hy, if_pos (by rw [r2]; exact e1)]; exact hg
  have hB : plB s (fdK s half rest f2) = half ++ fdT s rest f2 := ga_sp _ _ d2 k1
  have hlh : half.length = hN s := (lf_ok hl).2.1
  have hB1 : (plB s (fdK s half rest f2)).take (hN s) = half := by rw [hB, ← hlh, List.take_left]
  have hB2 : (plB s (fdK s half rest f2)).drop (hN s) = fdT s rest f2 := by rw [hB, ← hlh, List.drop_left]
  have i1 : (f0.drop (hN s)).length = hN s := by rw [List.length_drop]; omega
  have i2 : (f1.take (hN s)).length = hN s := by rw [List.length_take]; omega
  obtain ⟨v1, v2⟩ := sm_inv (bkF_ahF s.toNat) i1 i2
  rw [← h.tail, ← h.half] at v1 v2
  have hT : plT s tail (fdK s half rest f2) = f0.drop (hN s) := by unfold plT; rw [hB1]; exact v1
  have hH : plH s tail (fdK s half rest f2) = f1.take (hN s) := by unfold plH; rw [hB1]; exact v2
  refine ⟨hf, hp, by rw [hT, h.head, List.take_append_drop], h.z, n1, n2, h.s1, s2, ?_, ?_, rfl, hH⟩
  · unfold fdH; rw [h.rest]
  · rw [hB2]; unfold fdT; rw [h.rest]
end Go.Proofs.YtbakmphopgkpmaaDoor.LapN

namespace Go.Proofs.YtbakmphopgkpmaaDoor.BndM
open Go.ChangeShapes Go.WideShapes Go.ChangeAt Go.RowKit Go.Proofs.YtbakmphopgkpmaaDoor.Num Go.Proofs.YtbakmphopgkpmaaDoor.Samp Go.Proofs.YtbakmphopgkpmaaDoor.SampF Go.Proofs.YtbakmphopgkpmaaDoor.TurM Go.Proofs.YtbakmphopgkpmaaDoor.HalM Go.Proofs.YtbakmphopgkpmaaDoor.LapM Go.Proofs.YtbakmphopgkpmaaDoor.LapN

/-- The share of a number and a bound; the three steps with bounds. -/
def shV (p e : Int) : Int := ceilV (p * e) 1024
def tbA (p u a b : Int) : Int := (a + shV p b) + shV p (b + shV u (a + shV p b))
def tbB (p u a b : Int) : Int := b + shV u (a + shV p b)
def tbF (n i : Nat) (a b : Int) : Int × Int := (tbA (pV n i) (uV n i) a b, tbB (pV n i) (uV n i) a b)
/-- A bound. -/
def bdB (a : Int) : Bool := inB 0 137438953472 a
def tbO (s n a b : Int) : Bool := tOk s n && (bdB a && bdB b)
def tbC (s n a b : Int) : Int := if tbO s n a b = true then 0 else 3
def tbX (s n a b : Int) : Int := if tbO s n a b = true then tbA (pV s n) (uV s n) a b else 0
def tbY (s n a b : Int) : Int := if tbO s n a b = true then tbB (pV s n) (uV s n) a b else 0
def pbC (s d : Int) : Int := if (bdB s && bdB d) = true then 0 else 3
def pbE (s d : Int) : Int := if (bdB s && bdB d) = true then s + ceilV d 2 else 0
/-- Bounds that are gathered. -/
def ubE (n : Nat) (s e : List Int) (j : Nat) : Int := if j < n / 2 then s.getD j 0 + ceilV (e.getD j 0) 2 else s.getD (n - 1 - j) 0 + ceilV (e.getD (n - 1 - j) 0) 2
def ub (s d : List Int) : List Int := mkL (2 * s.length) (ubE (2 * s.length) s (prL (tbF (2 * s.length)) (2 * s.length) d))
def gaB : Nat → List Int → List Int
  | 0, c => c
  | k + 1, c => ub (gaB k (ev c)) (gaB k (od c))
theorem ub_len (s d : List Int) : (ub s d).length = 2 * s.length := mkL_len _ _
theorem gaB_len : ∀ (k : Nat) (c : List Int), c.length = 2 ^ k → (gaB k c).length = 2 ^ k
  | 0, _, h => h
  | k + 1, c, h => by
    show (ub (gaB k (ev c)) (gaB k (od c))).length = _
    rw [ub_len, gaB_len k (ev c) (by rw [ev_len, h, Nat.pow_succ]; omega), Nat.pow_succ]; omega
def mbB (v : Int) : Bool := inB 0 67108864 v
def gbdC (c : List Int) : Int := if is3 c.length = true then (if c.all mbB = true then 0 else 3) else 2
def gbdL (c : List Int) : List Int := if gbdC c = 0 then gaB (dep c.length) c else []
/-- The bounds of a frame. -/
def frB (s : Int) (x y z : List Int) : List Int :=
  smB (tbF s.toNat) (hN s) ((gaB (dep s.toNat) x).drop (hN s)) ((gaB (dep s.toNat) y).take (hN s)) ++ smA (tbF s.toNat) (hN s) ((gaB (dep s.toNat) y).drop (hN s)) ((gaB (dep s.toNat) z).take (hN s))
def frC (s : Int) (x y z : List Int) : Int :=
  if szF s = 0 then (if (x.length : Int) = s ∧ (y.length : Int) = s ∧ (z.length : Int) = s then (if gbdC x = 0 then (if gbdC y = 0 then gbdC z else gbdC y) else gbdC x) else 2) else 3
def frL (s : Int) (x y z : List Int) : List Int := if frC s x y z = 0 then frB s x y z else []
/-- Whether numbers differ by no more than bounds tell. -/
def wiB (a b e : List Int) : Bool := decide (a.length = b.length ∧ a.length = e.length ∧ ∀ i, i < a.length → (-1099511627776 ≤ a.getD i 0 ∧ a.getD i 0 ≤ 1099511627776) ∧ (-1099511627776 ≤ b.getD i 0 ∧ b.getD i 0 ≤ 1099511627776) ∧ absV (a.getD i 0 - b.getD i 0) ≤ e.getD i 0)

/-- Numbers that are off by no more than e. -/
def nr (e x y : Int) : Prop := -e ≤ x - y ∧ x - y ≤ e
theorem nr_add {e f x y u v : Int} (h : nr e x y) (k : nr f u v) : nr (e + f) (x + u) (y + v) := by unfold nr at *; omega
theorem nr_sub {e f x y u v : Int} (h : nr e x y) (k : nr f u v) : nr (e + f) (x - u) (y - v) := by unfold nr at *; omega
theorem nr_mul {p e x y : Int} (hp : 0 ≤ p) (h : nr e x y) : nr (p * e) (p * x) (p * y) := by
  obtain ⟨h1, h2⟩ := h
  have a1 := Int.mul_le_mul_of_nonneg_left h2 hp
  have a2 := Int.mul_le_mul_of_nonneg_left h1 hp
  rw [Int.mul_sub] at a1 a2
  rw [Int.mul_neg] at a2
  exact ⟨a2, a1⟩
theorem nr_ten {p e x y : Int} (hp : 0 ≤ p) (h : nr e x y) : nr (shV p e) (tenV (p * x)) (tenV (p * y)) := by
  obtain ⟨h1, h2⟩ := nr_mul hp h
  unfold nr shV ceilV tenV
  omega
theorem nr_half {e x y : Int} (h : nr e x y) : nr (ceilV e 2) (x / 2) (y / 2) := by unfold nr ceilV at *; omega
theorem nr_up {e x y : Int} (h : nr e x y) : nr (ceilV e 2) (x - x / 2) (y - y / 2) := by unfold nr ceilV at *; omega
theorem bk_nr {p u a b a' b' e f : Int} (hp : 0 ≤ p) (hu : 0 ≤ u) (ha : nr e a a') (hb : nr f b b') :
    nr (tbA p u e f) (bkA p u a b) (bkA p u a' b') ∧ nr (tbB p u e f) (bkB p u a b) (bkB p u a' b') := by
  have h1 := nr_add ha (nr_ten hp hb)
  have h2 := nr_sub hb (nr_ten hu h1)
  exact ⟨nr_add h1 (nr_ten hp h2), h2⟩
theorem pt_nr {s d s' d' e f : Int} (hs : nr e s s') (hd : nr f d d') :
    nr (e + ceilV f 2) ((s - d / 2) + d) ((s' - d' / 2) + d') ∧ nr (e + ceilV f 2) (s - d / 2) (s' - d' / 2) := by
  have h1 := nr_add hs (nr_up hd)
  refine ⟨?_, nr_sub hs (nr_half hd)⟩
  rw [show (s - d / 2) + d = s + (d - d / 2) by omega, show (s' - d' / 2) + d' = s' + (d' - d' / 2) by omega]
  exact h1
/-- Lists. -/
def nrL (e x y : List Int) : Prop := ∀ i, nr (e.getD i 0) (x.getD i 0) (y.getD i 0)
theorem nrL_mk {m : Nat} {f g h : Nat → Int} (H : ∀ i, i < m → nr (f i) (g i) (h i)) : nrL (mkL m f) (mkL m g) (mkL m h) := by
  intro i
  by_cases hi : i < m
  · rw [mkL_get _ hi, mkL_get _ hi, mkL_get _ hi]; exact H i hi
  · rw [mkL_far _ (by omega), mkL_far _ (by omega), mkL_far _ (by omega)]; unfold nr; omega
theorem nrL_ev {e x y : List Int} (h : nrL e x y) (h1 : x.length = e.length) (h2 : y.length = e.length) : nrL (ev e) (ev x) (ev y) := by
  unfold ev; rw [h1, h2]; exact nrL_mk (fun i _ => h _)
theorem nrL_od {e x y : List Int} (h : nrL e x y) (h1 : x.length = e.length) (h2 : y.length = e.length) : nrL (od e) (od x) (od y) := by
  unfold od; rw [h1, h2]; exact nrL_mk (fun i _ => h _)
theorem nrL_take {e x y : List Int} (h : nrL e x y) (n : Nat) : nrL (e.take n) (x.take n) (y.take n) := fun i => by
  rw [take_get, take_get, take_get]
  split
  · exact h i
  · unfold nr; omega
theorem nrL_drop {e x y : List Int} (h : nrL e x y) (n : Nat) : nrL (e.drop n) (x.drop n) (y.drop n) := fun i => by
  rw [drop_get, drop_get, drop_get]; exact h _
theorem nrL_app {e x y f u v : List Int} (h : nrL e x y) (k : nrL f u v) (h1 : x.length = e.length) (h2 : y.length = e.length) : nrL (e ++ f) (x ++ u) (y ++ v) := fun i => by
  by_cases hi : i < e.length
  · have := h i
    simp only [List.getD_eq_getElem?_getD] at this ⊢
    rwa [List.getElem?_append_left hi, List.getElem?_append_left (by omega), List.getElem?_append_left (by omega)]
  · have := k (i - e.length)
    simp only [List.getD_eq_getElem?_getD] at this ⊢
    rwa [List.getElem?_append_right (by omega), List.getElem?_append_right (by omega), List.getElem?_append_right (by omega), h1, h2]
/-- A turn of a size, at a place of a seam or of a half. -/
theorem pu_pos {n i : Nat} : 0 ≤ pV n i ∧ 0 ≤ uV n i := by
  unfold pV uV
  generalize ix (n : Int) (i : Int) = k
  by_cases hk : k < 14
  · have := row_bd k hk; omega
  · unfold rP rU
    rw [List.getD_eq_getElem?_getD, List.getElem?_eq_none (by simp [rowL]; omega)]
    decide
theorem bkF_nr (n i : Nat) {a b a' b' e f : Int} (ha : nr e a a') (hb : nr f b b') : nr (tbF n i e f).1 (bkF n i a b).1 (bkF n i a' b').1 ∧ nr (tbF n i e f).2 (bkF n i a b).2 (bkF n i a' b').2 :=
  bk_nr pu_pos.1 pu_pos.2 ha hb
theorem prL_nr (n : Nat) {e x y : List Int} (h : nrL e x y) : nrL (prL (tbF n) n e) (prL (bkF n) n x) (prL (bkF n) n y) :=
  nrL_mk (fun j _ => by
    unfold prE
    split
    · exact h j
    · split
      · exact (bkF_nr n _ (h _) (h _)).1
      · exact (bkF_nr n _ (h _) (h _)).2)
theorem un_nr {es ed s d s' d' : List Int} (hs : nrL es s s') (hd : nrL ed d d') (h1 : s.length = es.length) (h2 : s'.length = es.length) : nrL (ub es ed) (un s d) (un s' d') := by
  unfold ub un
  rw [h1, h2]
  refine nrL_mk (fun j _ => ?_)
  have hp := prL_nr (2 * es.length) hd
  unfold ubE unE unB
  split
  · exact (pt_nr (hs _) (hp _)).1
  · exact (pt_nr (hs _) (hp _)).2
theorem ga_nr : ∀ (k : Nat) {e c c' : List Int}, e.length = 2 ^ k → c.length = 2 ^ k → c'.length = 2 ^ k → nrL e c c' → nrL (gaB k e) (ga k c) (ga k c')
  | 0, _, _, _, _, _, _, h => h
  | k + 1, e, c, c', he, hc, hc', h => by
    have f1 : ∀ l : List Int, l.length = 2 ^ (k + 1) → (ev l).length = 2 ^ k ∧ (od l).length = 2 ^ k := fun l hl => by
      rw [ev_len, od_len, hl, Nat.pow_succ]; omega
    have hev := nrL_ev h (by omega) (by omega)
    have hod := nrL_od h (by omega) (by omega)
    exact un_nr (ga_nr k (f1 e he).1 (f1 c hc).1 (f1 c' hc').1 hev) (ga_nr k (f1 e he).2 (f1 c hc).2 (f1 c' hc').2 hod) (by rw [ga_len k _ (f1 c hc).1, gaB_len k _ (f1 e he).1]) (by rw [ga_len k _ (f1 c' hc').1, gaB_len k _ (f1 e he).1])
theorem sm_nr (n h : Nat) {e x y f u v : List Int} (hx : nrL e x y) (hu : nrL f u v) : nrL (smA (tbF n) h e f) (smA (bkF n) h x u) (smA (bkF n) h y v) ∧ nrL (smB (tbF n) h e f) (smB (bkF n) h x u) (smB (bkF n) h y v) :=
  ⟨nrL_mk (fun _ _ => (bkF_nr n _ (hx _) (hu _)).1), nrL_mk (fun _ _ => (bkF_nr n _ (hx _) (hu _)).2)⟩
/-- The frame between three blocks. -/
def frV (s : Int) (x y z : List Int) : List Int :=
  smB (bkF s.toNat) (hN s) ((plB s x).drop (hN s)) ((plB s y).take (hN s)) ++ smA (bkF s.toNat) (hN s) ((plB s y).drop (hN s)) ((plB s z).take (hN s))
theorem fr_nr {s : Int} (h0 : szF s = 0) {e1 e2 e3 x1 x2 x3 y1 y2 y3 : List Int}
    (l1 : e1.length = s.toNat ∧ x1.length = s.toNat ∧ y1.length = s.toNat) (l2 : e2.length = s.toNat ∧ x2.length = s.toNat ∧ y2.length = s.toNat) (l3 : e3.length = s.toNat ∧ x3.length = s.toNat ∧ y3.length = s.toNat)
    (h1 : nrL e1 x1 y1) (h2 : nrL e2 x2 y2) (h3 : nrL e3 x3 y3) : nrL (frB s e1 e2 e3) (frV s x1 x2 x3) (frV s y1 y2 y3) := by
  obtain ⟨d1, d2⟩ := dep_of h0
  have g1 := ga_nr (dep s.toNat) (by rw [← d1]; exact l1.1) (by rw [← d1]; exact l1.2.1) (by rw [← d1]; exact l1.2.2) h1
  have g2 := ga_nr (dep s.toNat) (by rw [← d1]; exact l2.1) (by rw [← d1]; exact l2.2.1) (by rw [← d1]; exact l2.2.2) h2
  have g3 := ga_nr (dep s.toNat) (by rw [← d1]; exact l3.1) (by rw [← d1]; exact l3.2.1) (by rw [← d1]; exact l3.2.2) h3
  exact nrL_app (sm_nr _ _ (nrL_drop g1 _) (nrL_take g2 _)).2 (sm_nr _ _ (nrL_drop g2 _) (nrL_take g3 _)).1 (by rw [smB_len, smB_len]) (by rw [smB_len, smB_len])
theorem frB_len (s : Int) (x y z : List Int) : (frB s x y z).length = hN s + hN s := by unfold frB; rw [List.length_append, smB_len, smA_len]
theorem frV_len (s : Int) (x y z : List Int) : (frV s x y z).length = hN s + hN s := by unfold frV; rw [List.length_append, smB_len, smA_len]
/-- What differs by no more than its bounds, and is not too great. -/
theorem wi_yes {a b e : List Int} (h1 : a.length = b.length) (h2 : a.length = e.length) (ha : lim 1099511627776 a) (hb : lim 1099511627776 b) (h : nrL e a b) : wiB a b e = true :=
  decide_eq_true ⟨h1, h2, fun i _ => ⟨ha i, hb i, by have := h i; unfold nr at this; unfold absV; split <;> omega⟩⟩
end Go.Proofs.YtbakmphopgkpmaaDoor.BndM

namespace Go.Proofs.YtbakmphopgkpmaaDoor.WayM
open Go.ChangeShapes Go.WideShapes Go.ChangeAt Go.RowKit Go.Proofs.YtbakmphopgkpmaaDoor.Num Go.Proofs.YtbakmphopgkpmaaDoor.Samp Go.Proofs.YtbakmphopgkpmaaDoor.TurM Go.Proofs.YtbakmphopgkpmaaDoor.HalM Go.Proofs.YtbakmphopgkpmaaDoor.LapM Go.Proofs.YtbakmphopgkpmaaDoor.LapN Go.Proofs.YtbakmphopgkpmaaDoor.BndM

theorem sh_bd {p e P E : Int} (h0 : 0 ≤ p) (h1 : p ≤ P) (h2 : 0 ≤ e) (h3 : e ≤ E) : (0 ≤ p * e ∧ p * e ≤ P * E) ∧ 0 ≤ shV p e ∧ shV p e ≤ P * E / 1024 + 1 := by
  have a1 := Int.mul_le_mul_of_nonneg_left h3 h0
  have a2 := Int.mul_le_mul_of_nonneg_right h1 (show 0 ≤ E by omega)
  have a3 := Int.mul_nonneg h0 h2
  refine ⟨⟨a3, by omega⟩, ?_, ?_⟩
  · unfold shV ceilV; omega
  · unfold shV ceilV; omega
theorem tb_bd {p u a b : Int} (hp : 1 ≤ p ∧ p ≤ 395 ∧ 1 ≤ u ∧ u ≤ 688) (ha : 0 ≤ a ∧ a ≤ 137438953472) (hb : 0 ≤ b ∧ b ≤ 137438953472) :
    (0 ≤ p * b ∧ p * b ≤ 60000000000000) ∧ (0 ≤ shV p b ∧ shV p b ≤ 54000000000) ∧
    (0 ≤ u * (a + shV p b) ∧ u * (a + shV p b) ≤ 140000000000000) ∧ (0 ≤ shV u (a + shV p b) ∧ shV u (a + shV p b) ≤ 130000000000) ∧
    (0 ≤ p * (b + shV u (a + shV p b)) ∧ p * (b + shV u (a + shV p b)) ≤ 110000000000000) ∧ (0 ≤ shV p (b + shV u (a + shV p b)) ∧ shV p (b + shV u (a + shV p b)) ≤ 110000000000) := by
  obtain ⟨m1, t1, t1'⟩ := sh_bd (by omega : 0 ≤ p) hp.2.1 hb.1 hb.2
  obtain ⟨m2, t2, t2'⟩ := sh_bd (p := u) (e := a + shV p b) (P := 688) (E := 190500000000) (by omega) hp.2.2.2 (by omega) (by omega)
  obtain ⟨m3, t3, t3'⟩ := sh_bd (p := p) (e := b + shV u (a + shV p b)) (P := 395) (E := 266000000000) (by omega) hp.2.1 (by omega) (by omega)
  refine ⟨⟨by omega, by omega⟩, ⟨by omega, by omega⟩, ⟨by omega, by omega⟩, ⟨by omega, by omega⟩, ⟨by omega, by omega⟩, ⟨by omega, by omega⟩⟩
theorem tb_small {p u a b M : Int} (hp : 1 ≤ p ∧ p ≤ 178 ∧ 1 ≤ u ∧ u ≤ 345) (ha : 0 ≤ a ∧ a ≤ M) (hb : 0 ≤ b ∧ b ≤ M) :
    (0 ≤ tbA p u a b ∧ tbA p u a b ≤ 2 * M + 4) ∧ (0 ≤ tbB p u a b ∧ tbB p u a b ≤ 2 * M + 4) := by
  unfold tbA tbB
  obtain ⟨-, t1, t1'⟩ := sh_bd (by omega : 0 ≤ p) hp.2.1 hb.1 hb.2
  generalize shV p b = x at *
  obtain ⟨-, t2, t2'⟩ := sh_bd (p := u) (e := a + x) (P := 345) (E := M + (178 * M / 1024 + 1)) (by omega) hp.2.2.2 (by omega) (by omega)
  generalize shV u (a + x) = y at *
  obtain ⟨-, t3, t3'⟩ := sh_bd (p := p) (e := b + y) (P := 178) (E := M + (345 * (M + (178 * M / 1024 + 1)) / 1024 + 1)) (by omega) hp.2.1 (by omega) (by omega)
  generalize shV p (b + y) = z at *
  omega

/-- The steps of a way: what a and b become. -/
def w1 (k : Bool) (p a b : Int) : Int := bif k then a + shV p b else a + tenV (p * b)
def w2 (k : Bool) (u a b : Int) : Int := bif k then b + shV u a else b - tenV (u * a)
def wA (k : Bool) (p u a b : Int) : Int := w1 k p (w1 k p a b) (w2 k u (w1 k p a b) b)
def wB (k : Bool) (p u a b : Int) : Int := w2 k u (w1 k p a b) b
def wP (k : Bool) (a b : Int) : Int := bif k then a + ceilV b 2 else (a - b / 2) + b
def wQ (k : Bool) (a b : Int) : Int := bif k then a + ceilV b 2 else a - b / 2
def wF (k : Bool) (n i : Nat) (a b : Int) : Int × Int := (wA k (pV n i) (uV n i) a b, wB k (pV n i) (uV n i) a b)
theorem wA_no (p u a b : Int) : wA false p u a b = bkA p u a b := rfl
theorem wA_yes (p u a b : Int) : wA true p u a b = tbA p u a b := rfl
theorem wB_no (p u a b : Int) : wB false p u a b = bkB p u a b := rfl
theorem wB_yes (p u a b : Int) : wB true p u a b = tbB p u a b := rfl
theorem wF_no : wF false = bkF := rfl
theorem wF_yes : wF true = tbF := rfl
/-- Numbers that the way may meet. -/
def wOk (k : Bool) (M x : Int) : Prop := (k = true → 0 ≤ x) ∧ -M ≤ x ∧ x ≤ M
def wlim (k : Bool) (M : Int) (l : List Int) : Prop := ∀ i, wOk k M (l.getD i 0)
theorem wlim.lim {k : Bool} {M : Int} {l : List Int} (h : wlim k M l) : lim M l := fun i => (h i).2
theorem wlim.mono {k : Bool} {M N : Int} {l : List Int} (h : wlim k M l) (hMN : M ≤ N) : wlim k N l := fun i => ⟨(h i).1, by have := (h i).2; omega⟩
theorem wlim.pos {k : Bool} {M : Int} {l : List Int} (h : wlim k M l) : 0 ≤ M := h.lim.pos
theorem wlim_no {M : Int} {l : List Int} (h : lim M l) : wlim false M l := fun i => ⟨fun e => (by cases e), h i⟩
theorem wlim_yes {M : Int} {l : List Int} (h : ∀ i, 0 ≤ l.getD i 0 ∧ l.getD i 0 ≤ M) : wlim true M l := fun i => ⟨fun _ => (h i).1, by have := h i; omega⟩
theorem wlim_mkL {k : Bool} {M : Int} {m : Nat} {f : Nat → Int} (h0 : 0 ≤ M) (h : ∀ i, i < m → wOk k M (f i)) : wlim k M (mkL m f) := by
  intro i
  by_cases hi : i < m
  · rw [mkL_get _ hi]; exact h i hi
  · rw [mkL_far _ (by omega)]; exact ⟨fun _ => Int.le_refl 0, by omega⟩
theorem wlim_ev {k : Bool} {M : Int} {c : List Int} (h : wlim k M c) : wlim k M (ev c) := wlim_mkL h.pos (fun _ _ => h _)
theorem wlim_od {k : Bool} {M : Int} {c : List Int} (h : wlim k M c) : wlim k M (od c) := wlim_mkL h.pos (fun _ _ => h _)
theorem w_small {k : Bool} {p u a b M : Int} (hp : 1 ≤ p ∧ p ≤ 178 ∧ 1 ≤ u ∧ u ≤ 345) (ha : wOk k M a) (hb : wOk k M b) :
    wOk k (2 * M + 4) (wA k p u a b) ∧ wOk k (2 * M + 4) (wB k p u a b) := by
  cases k
  · have := bk_small hp ha.2 hb.2
    rw [wA_no, wB_no]
    exact ⟨⟨fun e => (by cases e), by omega⟩, ⟨fun e => (by cases e), by omega⟩⟩
  · have := tb_small hp ⟨ha.1 rfl, ha.2.2⟩ ⟨hb.1 rfl, hb.2.2⟩
    rw [wA_yes, wB_yes]
    exact ⟨⟨fun _ => this.1.1, by omega⟩, ⟨fun _ => this.2.1, by omega⟩⟩
theorem wlim_prL {k : Bool} {n : Nat} {M : Int} (hn : sz4 n) {d : List Int} (h : wlim k M d) : wlim k (2 * M + 4) (prL (wF k n) n d) := by
  have h0 := h.pos
  refine wlim_mkL (by omega) (fun j hj => ?_)
  unfold prE
  split
  · exact ⟨(h j).1, by have := (h j).2; omega⟩
  · rename_i h2
    split
    · rename_i hq
      exact (w_small (row_small hn (by omega) hq).2 (h _) (h _)).1
    · rename_i hq
      have : n / 2 - 1 - j < n / 4 := by rcases hn with rfl | rfl | rfl | rfl <;> omega
      exact (w_small (row_small hn (by omega) this).2 (h _) (h _)).2
/-- Halves that are united, and what is gathered. -/
def wU (k : Bool) (n : Nat) (s e : List Int) (j : Nat) : Int := if j < n / 2 then wP k (s.getD j 0) (e.getD j 0) else wQ k (s.getD (n - 1 - j) 0) (e.getD (n - 1 - j) 0)
def wun (k : Bool) (s d : List Int) : List Int := mkL (2 * s.length) (wU k (2 * s.length) s (prL (wF k (2 * s.length)) (2 * s.length) d))
def wga (k : Bool) : Nat → List Int → List Int
  | 0, c => c
  | m + 1, c => wun k (wga k m (ev c)) (wga k m (od c))
theorem wun_no (s d : List Int) : wun false s d = un s d := rfl
theorem wun_yes (s d : List Int) : wun true s d = ub s d := rfl
theorem wga_no : ∀ (m : Nat) (c : List Int), wga false m c = ga m c
  | 0, _ => rfl
  | m + 1, c => by show wun false (wga false m (ev c)) (wga false m (od c)) = un (ga m (ev c)) (ga m (od c)); rw [wga_no m, wga_no m]; rfl
theorem wga_yes : ∀ (m : Nat) (c : List Int), wga true m c = gaB m c
  | 0, _ => rfl
  | m + 1, c => by show wun true (wga true m (ev c)) (wga true m (od c)) = ub (gaB m (ev c)) (gaB m (od c)); rw [wga_yes m, wga_yes m]; rfl
theorem wun_len (k : Bool) (s d : List Int) : (wun k s d).length = 2 * s.length := mkL_len _ _
theorem wga_len (k : Bool) : ∀ (m : Nat) (c : List Int), c.length = 2 ^ m → (wga k m c).length = 2 ^ m
  | 0, _, h => h
  | m + 1, c, h => by
    show (wun k (wga k m (ev c)) (wga k m (od c))).length = _
    rw [wun_len, wga_len k m (ev c) (by rw [ev_len, h, Nat.pow_succ]; omega), Nat.pow_succ]; omega
theorem w_part {k : Bool} {a b M : Int} (ha : wOk k M a) (hb : wOk k (2 * M + 4) b) : wOk k (2 * M + 3) (wP k a b) ∧ wOk k (2 * M + 3) (wQ k a b) := by
  cases k
  · have h1 := ha.2
    have h2 := hb.2
    refine ⟨⟨fun e => (by cases e), ?_⟩, ⟨fun e => (by cases e), ?_⟩⟩
    · show _ ≤ (a - b / 2) + b ∧ (a - b / 2) + b ≤ _; omega
    · show _ ≤ a - b / 2 ∧ a - b / 2 ≤ _; omega
  · have h1 := ha.1 rfl
    have h2 := hb.1 rfl
    have h3 := ha.2
    have h4 := hb.2
    have : 0 ≤ a + ceilV b 2 ∧ -(2 * M + 3) ≤ a + ceilV b 2 ∧ a + ceilV b 2 ≤ 2 * M + 3 := by unfold ceilV; omega
    exact ⟨⟨fun _ => this.1, this.2⟩, ⟨fun _ => this.1, this.2⟩⟩
theorem wlim_un {k : Bool} {M : Int} {s d : List Int} (hn : sz4 (2 * s.length)) (hs : wlim k M s) (hd : wlim k M d) : wlim k (2 * M + 3) (wun k s d) := by
  have hp := wlim_prL hn hd
  have h0 := hs.pos
  refine wlim_mkL (by omega) (fun j _ => ?_)
  unfold wU
  split
  · exact (w_part (hs j) (hp j)).1
  · exact (w_part (hs _) (hp _)).2
theorem wlim_ga {k : Bool} : ∀ (m : Nat) {M : Int} {c : List Int}, m ≤ 4 → c.length = 2 ^ m → wlim k M c → wlim k (bG m M) (wga k m c)
  | 0, _, _, _, _, h => h
  | m + 1, M, c, hk, hl, h => by
    have h1 : (ev c).length = 2 ^ m := by rw [ev_len, hl, Nat.pow_succ]; omega
    have h2 : (od c).length = 2 ^ m := by rw [od_len, hl, Nat.pow_succ]; omega
    exact wlim_un (by rw [wga_len k m _ h1, show 2 * 2 ^ m = 2 ^ (m + 1) by rw [Nat.pow_succ]; omega]; exact sz4_pow hk) (wlim_ga m (by omega) h1 (wlim_ev h)) (wlim_ga m (by omega) h2 (wlim_od h))
theorem wlim_take {k : Bool} {M : Int} {l : List Int} (h : wlim k M l) (n : Nat) : wlim k M (l.take n) := fun i => by
  have h0 := h.pos
  rw [take_get]
  split
  · exact h i
  · exact ⟨fun _ => Int.le_refl 0, by omega⟩
theorem wlim_drop {k : Bool} {M : Int} {l : List Int} (h : wlim k M l) (n : Nat) : wlim k M (l.drop n) := fun i => by rw [drop_get]; exact h _
theorem pm_bd {k : Bool} {p b M : Int} (hp : 0 ≤ p ∧ p ≤ 688) (hb : wOk k M b) : (k = true → 0 ≤ p * b) ∧ -(688 * M) ≤ p * b ∧ p * b ≤ 688 * M :=
  ⟨fun e => Int.mul_nonneg hp.1 (hb.1 e), mul_bd hp.1 hp.2 hb.2.1 hb.2.2 (by have := hb.2; omega)⟩
theorem w1_ok {k : Bool} {p a b M : Int} (hp : 0 ≤ p ∧ p ≤ 688) (ha : wOk k M a) (hb : wOk k M b) : wOk k (2 * M + 1) (w1 k p a b) := by
  have h := pm_bd hp hb
  have h1 := ha.2
  cases k
  · show wOk false _ (a + tenV (p * b))
    generalize p * b = x at *
    unfold tenV
    exact ⟨fun e => (by cases e), by omega⟩
  · show wOk true _ (a + ceilV (p * b) 1024)
    generalize p * b = x at *
    have h2 := h.1 rfl
    have h3 := ha.1 rfl
    unfold ceilV
    exact ⟨fun _ => by omega, by omega⟩
theorem w2_ok {k : Bool} {u a b M : Int} (hp : 0 ≤ u ∧ u ≤ 688) (ha : wOk k M a) (hb : wOk k M b) : wOk k (2 * M + 1) (w2 k u a b) := by
  have h := pm_bd hp ha
  have h1 := hb.2
  cases k
  · show wOk false _ (b - tenV (u * a))
    generalize u * a = x at *
    unfold tenV
    exact ⟨fun e => (by cases e), by omega⟩
  · show wOk true _ (b + ceilV (u * a) 1024)
    generalize u * a = x at *
    have h2 := h.1 rfl
    have h3 := hb.1 rfl
    unfold ceilV
    exact ⟨fun _ => by omega, by omega⟩
theorem wOk.mono {k : Bool} {M N x : Int} (h : wOk k M x) (hMN : M ≤ N) : wOk k N x := ⟨h.1, by have := h.2; omega⟩
theorem bd_ok {x : Int} (h : bdB x = true) : wOk true 137438953472 x := by have := of_inB h; exact ⟨fun _ => this.1, by omega⟩
theorem wd_ok {x : Int} (h : -137438953472 ≤ x ∧ x ≤ 137438953472) : wOk false 137438953472 x := ⟨fun e => (by cases e), h⟩
end Go.Proofs.YtbakmphopgkpmaaDoor.WayM
