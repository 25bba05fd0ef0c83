/- The program's StartDecode. -/
import Derived.Test.YthecfboplfmdmaaDoorItr
namespace Go.Proofs.YthecfboplfmdmaaDoor.StaI
open Go.ChangeShapes Go.WideShapes Go.ChangeAt Go.RowKit Go.Proofs.YthecfboplfmdmaaDoor.Num Go.Proofs.YthecfboplfmdmaaDoor.Sli Go.Proofs.YthecfboplfmdmaaDoor.App Go.Proofs.YthecfboplfmdmaaDoor.Byt Go.Proofs.YthecfboplfmdmaaDoor.CrcM Go.Proofs.YthecfboplfmdmaaDoor.Str Go.Proofs.YthecfboplfmdmaaDoor.Div Go.Proofs.YthecfboplfmdmaaDoor.Dec Go.Proofs.YthecfboplfmdmaaDoor.Blk Go.Proofs.YthecfboplfmdmaaDoor.Nxt Go.Proofs.YthecfboplfmdmaaDoor.Byte Go.Proofs.YthecfboplfmdmaaDoor.TakS Go.Proofs.YthecfboplfmdmaaDoor.TakT Go.Proofs.YthecfboplfmdmaaDoor.RngF Go.Proofs.YthecfboplfmdmaaDoor.Itr
attribute [local go_sem] Oper.semAt_some

/-- What a loop over a decoder's bytes keeps: the decoder in block g, its copy in block bx, the list, the answer's block rs. -/
structure SD (w : World) (g bx rs : Nat) (v : Value) (xs : List Int) (D0 RZ : Array Value) (a r n : Int) (W : World) : Prop where
  d : Blk W g #[v, .int .i64 a, .int .i64 r, .int .i64 n] 88
  b : Blk W bx D0 88
  o : OwB w.heap.size W v xs
  z : Blk W rs RZ 90
  l : Below w.heap.size w W
theorem SD.put {w : World} {g bx rs : Nat} {v : Value} {xs : List Int} {D0 RZ : Array Value} {a r n : Int} {W : World} (h : SD w g bx rs v xs D0 RZ a r n W) {l : Nat} {o : Obj} (hl : W.heap[l]? = some o) (ho : o.isCells = false) (hw : w.heap.size ≤ l) (o' : Obj) : SD w g bx rs v xs D0 RZ a r n (W.putObj l o') :=
  ⟨h.d.put hl ho o', h.b.put hl ho o', Ow.put h.o hl ho o', h.z.put hl ho o', below_put h.l hl hw o'⟩
theorem SD.later {w : World} {g bx rs : Nat} {v : Value} {xs : List Int} {D0 RZ : Array Value} {a r n : Int} {W W' : World} (h : SD w g bx rs v xs D0 RZ a r n W) (hb : Below W.heap.size W W') : SD w g bx rs v xs D0 RZ a r n W' :=
  ⟨h.d.later hb, h.b.later hb, h.o.later hb, h.z.later hb, bthen h.l hb⟩
/-- The decoder in its block is turned. -/
theorem SD.turn {w : World} {g bx rs : Nat} {v : Value} {xs : List Int} {D0 RZ : Array Value} {a r n a' r' n' : Int} {W W' : World} (h : SD w g bx rs v xs D0 RZ a r n W) (hd : Blk W' g #[v, .int .i64 a', .int .i64 r', .int .i64 n'] 88) (hg : W.grownBy W' (some g)) (h1 : bx ≠ g) (h2 : rs ≠ g) (h3 : w.heap.size ≤ g) : SD w g bx rs v xs D0 RZ a' r' n' W' :=
  ⟨hd, h.b.kept hg (by simpa using fun e => h1 e.symm), ow_apart h.o h.d (by decide) hg, h.z.kept hg (by simpa using fun e => h2 e.symm), h.l.trans (below_of_grown hg h.l.size (fun j e => by cases e; exact h3))⟩
theorem Blk.set5 {w : World} {b : Nat} {v0 v1 v2 v3 v4 : Value} {t : TypeId} (h : Blk w b #[v0, v1, v2, v3, v4] t) (x0 x1 x2 x3 x4 : Value) :
    Blk (((((w.setCell ⟨b, 0, none⟩ x0).setCell ⟨b, 1, none⟩ x1).setCell ⟨b, 2, none⟩ x2).setCell ⟨b, 3, none⟩ x3).setCell ⟨b, 4, none⟩ x4) b #[x0, x1, x2, x3, x4] t := ((((h.set 0 x0).set 1 x1).set 2 x2).set 3 x3).set 4 x4

set_option maxHeartbeats 2000000 in
theorem implStart_calls (v : Value) (xs : List Int) (w : World) (h : Sl .u8 w v xs) (hx : BytesL xs) (hlen : xs.length ≤ 1048576) :
    Calls Tryd.prog 56 #[v] w (DR w (stC xs) (stD xs)) := by
  have H := hid (h.later (bmore (Below.refl _ w) (.cells #[.int .i64 0, .slice none 0 0, .int .i64 0, .int .i64 0, .int .i64 0] 90)))
  have HB := hid (bmore (Below.refl _ w) (.cells #[.int .i64 0, .slice none 0 0, .int .i64 0, .int .i64 0, .int .i64 0] 90))
  have HN := hid (Blk.new w #[.int .i64 0, .slice none 0 0, .int .i64 0, .int .i64 0, .int .i64 0] 90)
  obtain ⟨a, cap, rfl, _⟩ := h
  unfold stC stD
  by_cases hl : 600 < xs.length
  · rw [if_pos hl, if_pos hl]
    have hl' : (600 : Int) < (xs.length : Int) := by omega
    go_enter Tryd.func56, Tryd.ntmps56
    go_wp2
    refine bodyPost_ret (v := .agg #[.int .i64 2, .slice none 0 0, .int .i64 0, .int .i64 0, .int .i64 0]) (by simp [results, Tryd.results56, go_sem]) rfl ?_
    refine ⟨.slice none 0 0, rfl, nil_ow _ _, ?_⟩
    exact bmore (Below.refl _ _) _
  · rw [if_neg hl, if_neg hl]
    have hl' : (xs.length : Int) ≤ 600 := by omega
    refine calls_of_marks Tryd.func56 rfl ?_
    simp only [Tryd.ntmps56, List.size_toArray, List.length_cons, List.length_nil, Nat.reduceAdd, Nat.reduceSub, Array.replicate_succ, Array.replicate_zero, List.push_toArray, List.append_toArray, List.nil_append, List.cons_append]
    go_wp2_with fail
    refine (clone_calls _ xs _ H.out hlen).mono ?_
    rintro e w1 ⟨v', rfl, ho, hb⟩
    have HO := hid (ho.mono (base' := w.heap.size) (by simp))
    have HN1 := hid (HN.out.later hb)
    have HB1 := hid (bthen HB.out hb)
    have hs1 : w.heap.size + 1 ≤ w1.heap.size := by have := hb.size; simpa using this
    obtain ⟨a', cap', rfl, _⟩ := ho.sl
    clear ho hb HN HB H
    go_wp2_with fail
    refine (unread_calls _ _ _ _ _ _ _).mono ?_
    rintro e w2 ⟨rfl, rfl⟩
    go_wp2_with fail
    have HSD : Hid (SD w w1.heap.size (w1.heap.size + 1) w.heap.size (.slice a' xs.length cap') xs #[.slice a' xs.length cap', .int .i64 0, .int .i64 0, .int .i64 16777216] #[.int .i64 0, .slice none 0 0, .int .i64 0, .int .i64 0, .int .i64 0] 0 (pull xs 0 0 0) 16777216
        ((w1.alloc (.cells #[.slice a' xs.length cap', .int .i64 0, .int .i64 0, .int .i64 16777216] 88)).alloc (.cells #[.slice a' xs.length cap', .int .i64 0, .int .i64 0, .int .i64 16777216] 88))) :=
      ⟨(Blk.new w1 _ _).alloc _, by have := Blk.new (w1.alloc (.cells #[.slice a' xs.length cap', .int .i64 0, .int .i64 0, .int .i64 16777216] 88)) #[.slice a' xs.length cap', .int .i64 0, .int .i64 0, .int .i64 16777216] 88; rwa [World.size_alloc] at this, (HO.out.alloc _).alloc _, (HN1.out.alloc _).alloc _, bmore (bmore HB1.out _) _⟩
    have hsz : ((w1.alloc (.cells #[.slice a' xs.length cap', .int .i64 0, .int .i64 0, .int .i64 16777216] 88)).alloc (.cells #[.slice a' xs.length cap', .int .i64 0, .int .i64 0, .int .i64 16777216] 88)).heap.size = w1.heap.size + 2 := by simp
    clear HO HN1 HB1
    generalize (w1.alloc (.cells #[.slice a' xs.length cap', .int .i64 0, .int .i64 0, .int .i64 16777216] 88)).alloc (.cells #[.slice a' xs.length cap', .int .i64 0, .int .i64 0, .int .i64 16777216] 88) = W0 at *
    generalize w1.heap.size = g at *
    refine wp_range (α := Int) (σ := Nat) (gf := 95) (lb := #[.pointer (some ⟨g + 1, 0, none⟩)]) rfl (enters_of Tryd.func95 (by kernel_rfl) rfl) (fun x => #[.int .u8 x]) (fun _ => rfl)
      (fun s x W => s ≤ 3 ∧ x = xs.getD s 0 ∧ SD w g (g + 1) w.heap.size (.slice a' xs.length cap') xs #[.slice a' xs.length cap', .int .i64 0, .int .i64 0, .int .i64 16777216] #[.int .i64 0, .slice none 0 0, .int .i64 0, .int .i64 0, .int .i64 0] (s : Int) (pull xs 0 0 s) 16777216 W)
      (fun s _ W => s < 3 ∧ SD w g (g + 1) w.heap.size (.slice a' xs.length cap') xs #[.slice a' xs.length cap', .int .i64 0, .int .i64 0, .int .i64 16777216] #[.int .i64 0, .slice none 0 0, .int .i64 0, .int .i64 0, .int .i64 0] ((s + 1 : Nat) : Int) (pull xs 0 0 (s + 1)) 16777216 W)
      (fun _ _ c W => c = .exit 0 ∧ SD w g (g + 1) w.heap.size (.slice a' xs.length cap') xs #[.slice a' xs.length cap', .int .i64 0, .int .i64 0, .int .i64 16777216] #[.int .i64 0, .slice none 0 0, .int .i64 0, .int .i64 0, .int .i64 0] 3 (pull xs 0 0 3) 16777216 W)
      (fun _ => False)
      (fun c W => c = .exit 0 ∧ SD w g (g + 1) w.heap.size (.slice a' xs.length cap') xs #[.slice a' xs.length cap', .int .i64 0, .int .i64 0, .int .i64 16777216] #[.int .i64 0, .slice none 0 0, .int .i64 0, .int .i64 0, .int .i64 0] 3 (pull xs 0 0 3) 16777216 W)
      (fun s x W o o' h hl => ⟨h.1, h.2.1, h.2.2.put hl rfl (by omega) _⟩) (fun s x W o o' h hl => ⟨h.1, h.2.put hl rfl (by omega) _⟩) (fun s x c W o o' h hl => ⟨h.1, h.2.put hl rfl (by omega) _⟩)
      ?_ ?assign ?body ?iter (fun _ _ _ h _ => h.elim) ?stop
    case assign =>
      intro x W K hK
      gi_wp2
      exact hK
    case body =>
      rintro s x W hlt ⟨hs, rfl, hsd⟩
      obtain ⟨c0, c1, c2, c3, f0, f1, f2, f3⟩ := hsd.d.four
      have HS := hid hsd
      have hbd := CrcM.getD_bd hx s
      by_cases h3 : s = 3
      · subst h3
        clear hsd
        gi_wp2
        exact ⟨Kp2.refl _ _, rfl, HS.out⟩
      · have h3' : ((s : Int) == 3) = false := by simp; omega
        have hp := pull_bd xs hx 0 0 1 (by omega) (by omega) s
        have hu : up 1 s ≤ 65536 := by
          obtain rfl | rfl | rfl : s = 0 ∨ s = 1 ∨ s = 2 := by omega
          all_goals simp [up]
        have Hp : Hid (pull xs 0 0 (s + 1) = pull xs 0 0 s * 256 + xs.getD s 0) := by show pull xs 0 0 s * 256 + xs.getD (0 + s) 0 = _; rw [Nat.zero_add]
        have HR := hid (read_calls g _ (s : Int) (pull xs 0 0 s) 16777216 (xs.getD s 0) _ W hsd.d (by omega) (by omega) (by omega) (by omega) hbd)
        clear hsd
        generalize xs.getD s 0 = x at *
        generalize pull xs 0 0 s = q at *
        gi_wp2_with fail
        refine ⟨trivial, rfl, (CallsIn.inRound _ (callsIn_wide.2 HR.out)).mono ?_⟩
        rintro e W2 ⟨⟨r, rfl⟩, hb2, hg2⟩
        have HS2 := hid (HS.out.turn hb2 hg2 (by omega) (by omega) (by omega))
        have HK := hid (Kp2.grown (B := W0.heap.size) hg2 hlt (fun j e => by cases e; omega))
        have e1 : ((s + 1 : Nat) : Int) = (s : Int) + 1 := by omega
        clear hb2 hg2 HR HS c0 c1 c2 c3 f0 f1 f2 f3
        gi_wp2
        refine ⟨HK.out, by omega, ?_⟩
        rw [e1, Hp.out]
        exact HS2.out
    case iter =>
      intro r0 rc W1 hg1 hsz1 hbk hY
      refine unread1_in _ _ _ (fun s W => s ≤ 3 ∧ SD w g (g + 1) w.heap.size (.slice a' xs.length cap') xs #[.slice a' xs.length cap', .int .i64 0, .int .i64 0, .int .i64 16777216] #[.int .i64 0, .slice none 0 0, .int .i64 0, .int .i64 0, .int .i64 0] (s : Int) (pull xs 0 0 s) 16777216 W) _
        (a0 := 0) (N := 3) (xs := xs) (v := .slice a' xs.length cap') (rst := 0) (rng := 16777216) ?h1 ?h2 ?h3 ?h4 (by omega) hY W1 ?h5 hbk
      case h1 => exact fun s W h => ⟨h.2.b, h.2.o.sl, h.1⟩
      case h2 => exact fun s W W' h hb => ⟨h.1, by rw [Nat.zero_add], h.2.later hb⟩
      case h3 => exact fun s x W h => ⟨h.1, h.2⟩
      case h4 => exact fun s x c W h => h
      case h5 => exact ⟨Nat.zero_le _, HSD.out.later ⟨hg1.os, hg1.tape, hg1.output, hg1.size, fun k hk => hg1.block k hk (by simp)⟩⟩
    case stop =>
      rintro r c W o ⟨rfl, hsd⟩ hbk
      have hsd2 := hsd.put hbk.l rfl (by omega) (.loop o)
      have hd : (W.putObj (W0.heap.size + 1) (.loop o)).heap[W0.heap.size]? = some (.deferred (some [])) := (World.putObj_heap_other (by omega)).trans hbk.d
      clear hsd hbk
      generalize W.putObj (W0.heap.size + 1) (.loop o) = W5 at *
      obtain ⟨c0, c1, c2, c3, _⟩ := hsd2.d.four
      obtain ⟨z0, z1, z2, z3, z4, f0, f1, f2, f3, f4⟩ := hsd2.z.five
      have HS := hid hsd2
      have HD := hid hd
      clear hsd2 hd HSD
      generalize pull xs 0 0 3 = q at *
      go_wp2
      have HG := grown_set5 W5 w.heap.size (.int .i64 0) (.slice a' xs.length cap') (.int .i64 3) (.int .i64 q) (.int .i64 16777216)
      have hd5 := (HG.block W0.heap.size (Array.getElem?_eq_some_iff.1 HD.out).1 (by simp; omega)).trans HD.out
      have HZ := (Blk.set5 HS.out.z (.int .i64 0) (.slice a' xs.length cap') (.int .i64 3) (.int .i64 q) (.int .i64 16777216)).put hd5 rfl (.deferred none)
      obtain ⟨y0, y1, y2, y3, y4, _⟩ := HZ.five
      refine leaves_mark hd5 ?_
      refine ⟨.agg #[.int .i64 0, .slice a' xs.length cap', .int .i64 3, .int .i64 q, .int .i64 16777216], by simp [results, Tryd.results56, go_sem, y0, y1, y2, y3, y4], _, rfl, ?_, ?_⟩
      · exact Ow.put (ow_apart HS.out.o HS.out.z (by decide) HG) hd5 rfl _
      · exact below_put (below_set5 HS.out.l (Nat.le_refl _) _ _ _ _ _) hd5 (by omega) _
end Go.Proofs.YthecfboplfmdmaaDoor.StaI
