/- New senders, receivers and sessions of the model, as they are drawn. -/
import Derived.Test.YtobmngoodjmdaaaDoorDrwK
import Derived.Laws.CopyOwn
import Derived.Laws.Tables
import Derived.Laws.Rows
namespace Go.Proofs.YtobmngoodjmdaaaDoor.DrwM
open Go.ChangeShapes Go.WideShapes Go.ChangeAt Go.RowKit Go.Proofs.YtobmngoodjmdaaaDoor.Num Go.Proofs.YtobmngoodjmdaaaDoor.Sli Go.Proofs.YtobmngoodjmdaaaDoor.App Go.Proofs.YtobmngoodjmdaaaDoor.Samp Go.Proofs.YtobmngoodjmdaaaDoor.Blk Go.Proofs.YtobmngoodjmdaaaDoor.LapM Go.Proofs.YtobmngoodjmdaaaDoor.IntL Go.Proofs.YtobmngoodjmdaaaDoor.IntA Go.Proofs.YtobmngoodjmdaaaDoor.LapS Go.Proofs.YtobmngoodjmdaaaDoor.Src Go.Proofs.YtobmngoodjmdaaaDoor.Lists Go.Proofs.YtobmngoodjmdaaaDoor.Samples Go.Proofs.YtobmngoodjmdaaaDoor.Draws Go.Proofs.YtobmngoodjmdaaaDoor.DrwF

theorem szSender : (Tryd.prog.info? 78).map (·.size) = some 17 := by kernel_rfl
theorem szReceiver : (Tryd.prog.info? 81).map (·.size) = some 16 := by kernel_rfl
theorem szSession : (Tryd.prog.info? 87).map (·.size) = some 39 := by kernel_rfl
set_option maxRecDepth 100000 in
set_option maxHeartbeats 2000000 in
theorem l17New_calls (s b r : Int) (w : World) (hz : szF s = 0) :
    Calls Tryd.prog 104 #[.int .i64 s, .int .i64 b, .int .i64 r] w fun e w' => ∃ a1 n1 c1 a2 n2 c2, e = .returned (.agg #[.int .i64 s, .int .i64 b, .int .i64 r, .int .i64 0, .int .i64 s, .slice a1 n1 c1, .slice a2 n2 c2, .bool false, .int .i64 0, .int .i64 0, .slice none 0 0, .bool false, .int .i64 0, .int .i64 0, .slice none 0 0, .int .i64 0, .int .i64 0]) ∧ Below w.heap.size w w' := by
  have HN := hid (fun W => l7New_calls s W hz)
  clear hz
  go_enter Tryd.func104, Tryd.ntmps104
  go_wp2_with fail
  refine (HN.out _).mono ?_
  rintro e w1 ⟨u, t, rfl, ht, hb⟩
  obtain ⟨a1, c1, rfl, -⟩ := ht.s.sl
  obtain ⟨a2, c2, rfl, -⟩ := ht.d.sl
  have HB := hid ((Blk.new w #[.int .i64 0, .int .i64 0, .int .i64 0, .int .i64 0, .int .i64 0, .slice none 0 0, .slice none 0 0, .bool false, .int .i64 0, .int .i64 0, .slice none 0 0, .bool false, .int .i64 0, .int .i64 0, .slice none 0 0, .int .i64 0, .int .i64 0] 78).later hb)
  have HLb := hid (bthen (bmore (Below.refl _ w) (.cells #[.int .i64 0, .int .i64 0, .int .i64 0, .int .i64 0, .int .i64 0, .slice none 0 0, .slice none 0 0, .bool false, .int .i64 0, .int .i64 0, .slice none 0 0, .bool false, .int .i64 0, .int .i64 0, .slice none 0 0, .int .i64 0, .int .i64 0] 78)) hb)
  clear ht hb HN
  generalize (List.replicate (hN s) (0 : Int)).length = n1 at *
  have hset := setRow_heap w1 w.heap.size _ #[.int .i64 s, .int .i64 b, .int .i64 r, .int .i64 0, .int .i64 s, .slice a1 n1 c1, .slice a2 n1 c2, .bool false, .int .i64 0, .int .i64 0, .slice none 0 0, .bool false, .int .i64 0, .int .i64 0, .slice none 0 0, .int .i64 0, .int .i64 0] 78 (0, 0) HB.out
  have hbel := below_setRow HLb.out (Nat.le_refl _) #[.int .i64 s, .int .i64 b, .int .i64 r, .int .i64 0, .int .i64 s, .slice a1 n1 c1, .slice a2 n1 c2, .bool false, .int .i64 0, .int .i64 0, .slice none 0 0, .bool false, .int .i64 0, .int .i64 0, .slice none 0 0, .int .i64 0, .int .i64 0]
  have HSt := hid hset
  have HBl := hid hbel
  clear hset hbel
  go_wp2_with (refine wpList_store_row rfl 78 _ _ rfl w.heap.size #[.int .i64 s, .int .i64 b, .int .i64 r, .int .i64 0, .int .i64 s, .slice a1 n1 c1, .slice a2 n1 c2, .bool false, .int .i64 0, .int .i64 0, .slice none 0 0, .bool false, .int .i64 0, .int .i64 0, .slice none 0 0, .int .i64 0, .int .i64 0] rfl rfl 78 _ HB.out szSender rfl (by simp [Value.oneCell']) ?_)
  exact bodyPost_ret (v := .agg #[.int .i64 s, .int .i64 b, .int .i64 r, .int .i64 0, .int .i64 s, .slice a1 n1 c1, .slice a2 n1 c2, .bool false, .int .i64 0, .int .i64 0, .slice none 0 0, .bool false, .int .i64 0, .int .i64 0, .slice none 0 0, .int .i64 0, .int .i64 0]) (results_cell_row rfl _ _ w.heap.size 78 #[.int .i64 s, .int .i64 b, .int .i64 r, .int .i64 0, .int .i64 s, .slice a1 n1 c1, .slice a2 n1 c2, .bool false, .int .i64 0, .int .i64 0, .slice none 0 0, .bool false, .int .i64 0, .int .i64 0, .slice none 0 0, .int .i64 0, .int .i64 0] (0, 0) _ rfl HSt.out Tryd.underlying78 rfl szSender) rfl ⟨_, _, _, _, _, _, rfl, HBl.out⟩
set_option maxRecDepth 100000 in
set_option maxHeartbeats 2000000 in
theorem l18New_calls (s : Int) (w : World) (hz : szF s = 0) :
    Calls Tryd.prog 105 #[.int .i64 s] w fun e w' => ∃ a3 n3 c3 a4 n4 c4 a5 n5 c5, e = .returned (.agg #[.int .i64 s, .int .i64 0, .slice none 0 0, .bool false, .int .i64 0, .int .i64 0, .slice none 0 0, .bool false, .int .i64 0, .int .i64 0, .slice none 0 0, .int .i64 s, .slice a3 n3 c3, .slice a4 n4 c4, .slice a5 n5 c5, .int .i64 0]) ∧ Below w.heap.size w w' := by
  have HN := hid (fun W => l7NewSynth_calls s W hz)
  obtain ⟨-, e1, -, -, -, -⟩ := sz_nat hz
  have HZ := hid (fun W => zeros_calls s.toNat W (by rcases TurM.sz_cases hz with rfl | rfl | rfl <;> decide))
  rw [e1] at HZ
  generalize s.toNat = n5 at HZ
  clear hz e1
  go_enter Tryd.func105, Tryd.ntmps105
  go_wp2_with fail
  refine (HZ.out _).mono ?_
  rintro e w1 ⟨rfl, _, hb1⟩
  have HB1 := hid ((Blk.new w #[.int .i64 0, .int .i64 0, .slice none 0 0, .bool false, .int .i64 0, .int .i64 0, .slice none 0 0, .bool false, .int .i64 0, .int .i64 0, .slice none 0 0, .int .i64 0, .slice none 0 0, .slice none 0 0, .slice none 0 0, .int .i64 0] 81).later hb1)
  have HL1 := hid (bthen (bmore (Below.refl _ w) (.cells #[.int .i64 0, .int .i64 0, .slice none 0 0, .bool false, .int .i64 0, .int .i64 0, .slice none 0 0, .bool false, .int .i64 0, .int .i64 0, .slice none 0 0, .int .i64 0, .slice none 0 0, .slice none 0 0, .slice none 0 0, .int .i64 0] 81)) hb1)
  clear hb1 HZ
  go_wp2_with fail
  refine (HN.out _).mono ?_
  rintro e w2 ⟨u, t, rfl, ht, hb⟩
  obtain ⟨a3, c3, rfl, -⟩ := ht.s.sl
  obtain ⟨a4, c4, rfl, -⟩ := ht.d.sl
  have HB := hid (HB1.out.later hb)
  have HLb := hid (bthen HL1.out hb)
  clear ht hb HN HB1 HL1
  generalize (List.replicate (hN s) (0 : Int)).length = n3 at *
  have hset := setRow_heap w2 w.heap.size _ #[.int .i64 s, .int .i64 0, .slice none 0 0, .bool false, .int .i64 0, .int .i64 0, .slice none 0 0, .bool false, .int .i64 0, .int .i64 0, .slice none 0 0, .int .i64 s, .slice a3 n3 c3, .slice a4 n3 c4, .slice (some ⟨w.heap.size + 1, 0, none⟩) n5 n5, .int .i64 0] 81 (0, 0) HB.out
  have hbel := below_setRow HLb.out (Nat.le_refl _) #[.int .i64 s, .int .i64 0, .slice none 0 0, .bool false, .int .i64 0, .int .i64 0, .slice none 0 0, .bool false, .int .i64 0, .int .i64 0, .slice none 0 0, .int .i64 s, .slice a3 n3 c3, .slice a4 n3 c4, .slice (some ⟨w.heap.size + 1, 0, none⟩) n5 n5, .int .i64 0]
  have HSt := hid hset
  have HBl := hid hbel
  clear hset hbel
  go_wp2_with (refine wpList_store_row rfl 81 _ _ rfl w.heap.size #[.int .i64 s, .int .i64 0, .slice none 0 0, .bool false, .int .i64 0, .int .i64 0, .slice none 0 0, .bool false, .int .i64 0, .int .i64 0, .slice none 0 0, .int .i64 s, .slice a3 n3 c3, .slice a4 n3 c4, .slice (some ⟨w.heap.size + 1, 0, none⟩) n5 n5, .int .i64 0] rfl rfl 81 _ HB.out szReceiver rfl (by simp [Value.oneCell']) ?_)
  exact bodyPost_ret (v := .agg #[.int .i64 s, .int .i64 0, .slice none 0 0, .bool false, .int .i64 0, .int .i64 0, .slice none 0 0, .bool false, .int .i64 0, .int .i64 0, .slice none 0 0, .int .i64 s, .slice a3 n3 c3, .slice a4 n3 c4, .slice (some ⟨w.heap.size + 1, 0, none⟩) n5 n5, .int .i64 0]) (results_cell_row rfl _ _ w.heap.size 81 #[.int .i64 s, .int .i64 0, .slice none 0 0, .bool false, .int .i64 0, .int .i64 0, .slice none 0 0, .bool false, .int .i64 0, .int .i64 0, .slice none 0 0, .int .i64 s, .slice a3 n3 c3, .slice a4 n3 c4, .slice (some ⟨w.heap.size + 1, 0, none⟩) n5 n5, .int .i64 0] (0, 0) _ rfl HSt.out Tryd.underlying81 rfl szReceiver) rfl ⟨_, _, _, _, _, _, _, _, _, rfl, HBl.out⟩
set_option maxRecDepth 100000 in
set_option maxHeartbeats 8000000 in
theorem l20New_calls (s b r wt : Int) (w : World) (hz : szF s = 0) :
    Calls Tryd.prog 74 #[.int .i64 s, .int .i64 b, .int .i64 r, .int .i64 wt] w fun e w' => ∃ a1 n1 c1 a2 n2 c2 a3 n3 c3 a4 n4 c4 a5 n5 c5, e = .returned (.agg #[.int .i64 s, .int .i64 b, .int .i64 r, .int .i64 0, .int .i64 s, .slice a1 n1 c1, .slice a2 n2 c2, .bool false, .int .i64 0, .int .i64 0, .slice none 0 0, .bool false, .int .i64 0, .int .i64 0, .slice none 0 0, .int .i64 0, .int .i64 0, .int .i64 s, .int .i64 0, .slice none 0 0, .bool false, .int .i64 0, .int .i64 0, .slice none 0 0, .bool false, .int .i64 0, .int .i64 0, .slice none 0 0, .int .i64 s, .slice a3 n3 c3, .slice a4 n4 c4, .slice a5 n5 c5, .int .i64 0, .int .i64 (-1), .slice none 0 0, .int .i64 0, .int .i64 wt, .slice none 0 0, .slice none 0 0]) ∧ Below w.heap.size w w' := by
  have H1 := hid (fun W => l17New_calls s b r W hz)
  have H2 := hid (fun W => l18New_calls s W hz)
  clear hz
  go_enter Tryd.func74, Tryd.ntmps74
  go_wp2_with fail
  refine (H1.out _).mono ?_
  rintro e w1 ⟨a1, n1, c1, a2, n2, c2, rfl, hb1⟩
  have HB1 := hid ((Blk.new w #[.int .i64 0, .int .i64 0, .int .i64 0, .int .i64 0, .int .i64 0, .slice none 0 0, .slice none 0 0, .bool false, .int .i64 0, .int .i64 0, .slice none 0 0, .bool false, .int .i64 0, .int .i64 0, .slice none 0 0, .int .i64 0, .int .i64 0, .int .i64 0, .int .i64 0, .slice none 0 0, .bool false, .int .i64 0, .int .i64 0, .slice none 0 0, .bool false, .int .i64 0, .int .i64 0, .slice none 0 0, .int .i64 0, .slice none 0 0, .slice none 0 0, .slice none 0 0, .int .i64 0, .int .i64 0, .slice none 0 0, .int .i64 0, .int .i64 0, .slice none 0 0, .slice none 0 0] 87).later hb1)
  have HL1 := hid (bthen (bmore (Below.refl _ w) (.cells #[.int .i64 0, .int .i64 0, .int .i64 0, .int .i64 0, .int .i64 0, .slice none 0 0, .slice none 0 0, .bool false, .int .i64 0, .int .i64 0, .slice none 0 0, .bool false, .int .i64 0, .int .i64 0, .slice none 0 0, .int .i64 0, .int .i64 0, .int .i64 0, .int .i64 0, .slice none 0 0, .bool false, .int .i64 0, .int .i64 0, .slice none 0 0, .bool false, .int .i64 0, .int .i64 0, .slice none 0 0, .int .i64 0, .slice none 0 0, .slice none 0 0, .slice none 0 0, .int .i64 0, .int .i64 0, .slice none 0 0, .int .i64 0, .int .i64 0, .slice none 0 0, .slice none 0 0] 87)) hb1)
  clear hb1 H1
  go_wp2_with fail
  refine (H2.out _).mono ?_
  rintro e w2 ⟨a3, n3, c3, a4, n4, c4, a5, n5, c5, rfl, hb⟩
  have HB := hid (HB1.out.later hb)
  have HLb := hid (bthen HL1.out hb)
  clear hb H2 HB1 HL1
  have hset := setRow_heap w2 w.heap.size _ #[.int .i64 s, .int .i64 b, .int .i64 r, .int .i64 0, .int .i64 s, .slice a1 n1 c1, .slice a2 n2 c2, .bool false, .int .i64 0, .int .i64 0, .slice none 0 0, .bool false, .int .i64 0, .int .i64 0, .slice none 0 0, .int .i64 0, .int .i64 0, .int .i64 s, .int .i64 0, .slice none 0 0, .bool false, .int .i64 0, .int .i64 0, .slice none 0 0, .bool false, .int .i64 0, .int .i64 0, .slice none 0 0, .int .i64 s, .slice a3 n3 c3, .slice a4 n4 c4, .slice a5 n5 c5, .int .i64 0, .int .i64 (-1), .slice none 0 0, .int .i64 0, .int .i64 wt, .slice none 0 0, .slice none 0 0] 87 (0, 0) HB.out
  have hbel := below_setRow HLb.out (Nat.le_refl _) #[.int .i64 s, .int .i64 b, .int .i64 r, .int .i64 0, .int .i64 s, .slice a1 n1 c1, .slice a2 n2 c2, .bool false, .int .i64 0, .int .i64 0, .slice none 0 0, .bool false, .int .i64 0, .int .i64 0, .slice none 0 0, .int .i64 0, .int .i64 0, .int .i64 s, .int .i64 0, .slice none 0 0, .bool false, .int .i64 0, .int .i64 0, .slice none 0 0, .bool false, .int .i64 0, .int .i64 0, .slice none 0 0, .int .i64 s, .slice a3 n3 c3, .slice a4 n4 c4, .slice a5 n5 c5, .int .i64 0, .int .i64 (-1), .slice none 0 0, .int .i64 0, .int .i64 wt, .slice none 0 0, .slice none 0 0]
  have HSt := hid hset
  have HBl := hid hbel
  clear hset hbel
  go_wp2_with (refine wpList_store_row rfl 87 _ _ rfl w.heap.size #[.int .i64 s, .int .i64 b, .int .i64 r, .int .i64 0, .int .i64 s, .slice a1 n1 c1, .slice a2 n2 c2, .bool false, .int .i64 0, .int .i64 0, .slice none 0 0, .bool false, .int .i64 0, .int .i64 0, .slice none 0 0, .int .i64 0, .int .i64 0, .int .i64 s, .int .i64 0, .slice none 0 0, .bool false, .int .i64 0, .int .i64 0, .slice none 0 0, .bool false, .int .i64 0, .int .i64 0, .slice none 0 0, .int .i64 s, .slice a3 n3 c3, .slice a4 n4 c4, .slice a5 n5 c5, .int .i64 0, .int .i64 (-1), .slice none 0 0, .int .i64 0, .int .i64 wt, .slice none 0 0, .slice none 0 0] rfl rfl 87 _ HB.out szSession rfl (by simp [Value.oneCell']) ?_)
  exact bodyPost_ret (v := .agg #[.int .i64 s, .int .i64 b, .int .i64 r, .int .i64 0, .int .i64 s, .slice a1 n1 c1, .slice a2 n2 c2, .bool false, .int .i64 0, .int .i64 0, .slice none 0 0, .bool false, .int .i64 0, .int .i64 0, .slice none 0 0, .int .i64 0, .int .i64 0, .int .i64 s, .int .i64 0, .slice none 0 0, .bool false, .int .i64 0, .int .i64 0, .slice none 0 0, .bool false, .int .i64 0, .int .i64 0, .slice none 0 0, .int .i64 s, .slice a3 n3 c3, .slice a4 n4 c4, .slice a5 n5 c5, .int .i64 0, .int .i64 (-1), .slice none 0 0, .int .i64 0, .int .i64 wt, .slice none 0 0, .slice none 0 0]) (results_cell_row rfl _ _ w.heap.size 87 #[.int .i64 s, .int .i64 b, .int .i64 r, .int .i64 0, .int .i64 s, .slice a1 n1 c1, .slice a2 n2 c2, .bool false, .int .i64 0, .int .i64 0, .slice none 0 0, .bool false, .int .i64 0, .int .i64 0, .slice none 0 0, .int .i64 0, .int .i64 0, .int .i64 s, .int .i64 0, .slice none 0 0, .bool false, .int .i64 0, .int .i64 0, .slice none 0 0, .bool false, .int .i64 0, .int .i64 0, .slice none 0 0, .int .i64 s, .slice a3 n3 c3, .slice a4 n4 c4, .slice a5 n5 c5, .int .i64 0, .int .i64 (-1), .slice none 0 0, .int .i64 0, .int .i64 wt, .slice none 0 0, .slice none 0 0] (0, 0) _ rfl HSt.out Tryd.underlying87 rfl szSession) rfl ⟨_, _, _, _, _, _, _, _, _, _, _, _, _, _, _, rfl, HBl.out⟩
end Go.Proofs.YtobmngoodjmdaaaDoor.DrwM
