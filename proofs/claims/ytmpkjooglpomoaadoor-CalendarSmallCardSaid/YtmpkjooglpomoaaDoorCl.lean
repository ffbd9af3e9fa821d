/- The text of a date. -/
import Derived.Test.YtmpkjooglpomoaaDoorCf
import Derived.Test.YtmpkjooglpomoaaDoorCk
import Derived.Test.YtmpkjooglpomoaaDoorCal4
import Derived.Laws.BytesArg
namespace Go.Proofs.YtmpkjooglpomoaaDoor
open Go.RowKit Go.Lib

/-- The numbers of the bytes of a date's text. -/
def txtI (y m d : Int) : List Int := [48 + y / 10 / 10 / 10 % 10, 48 + y / 10 / 10 % 10, 48 + y / 10 % 10, 48 + y % 10, 45, 48 + m / 10 % 10, 48 + m % 10, 45, 48 + d / 10 % 10, 48 + d % 10]
noncomputable def textV (d : Int) : ByteArray := if IsD d then strOfNums (txtI (yr (mon d)) (mo (mon d)) (d - st (mon d) + 1)) else ⟨#[]⟩
theorem text_in {d : Int} (h : IsD d) : textV d = strOfNums (txtI (yr (mon d)) (mo (mon d)) (d - st (mon d) + 1)) := by unfold textV; rw [if_pos h]
theorem text_out {d : Int} (h : ¬ IsD d) : textV d = ⟨#[]⟩ := by unfold textV; rw [if_neg h]

/-- The numbers of a block's bytes. -/
abbrev u8s (l : List Int) : Array Value := (l.map (Value.int .u8)).toArray

set_option maxRecDepth 100000 in
set_option maxHeartbeats 2000000 in
theorem text_any (d : Int) {w : World} (hL : Laid w) :
    Calls Tryd.prog 35 #[.int .i64 d] w fun e w' => e = .returned (.string (textV d)) ∧ Below w.heap.size w w' := by
  have HC := hid (fun w1 (h1 : Laid w1) => ymd_any d h1)
  have HL := hid hL
  by_cases h : IsD d
  · have ⟨e1, e2, e3, e4, _, _⟩ := ymd_in h
    rw [e1, e2, e3, e4] at HC
    rw [text_in h]
    have ⟨a1, a2, a3⟩ := date_bd h
    clear e1 e2 e3 e4 h hL
    generalize d - st (mon d) + 1 = D at *
    generalize yr (mon d) = Y at *
    generalize mo (mon d) = M at *
    obtain ⟨y0, y1⟩ := a1
    obtain ⟨m0, m1⟩ := a2
    obtain ⟨d0, d1⟩ := a3
    go_enter Tryd.func35, Tryd.ntmps35
    go_wp2_with (go_at_call 28; refine (HC.out _ HL.out).mono ?_; rintro e w1 ⟨rfl, hb⟩)
    --LOOP
    have HB := hid hb
    have ix0 : ∀ w, (Instr.index 52 (.agg #[.int .i64 Y, .int .i64 M, .int .i64 D]) (.int .i64 0)).run Tryd.prog w = .ok (.int .i64 Y) w := fun w => by kernel_rfl
    have ix1 : ∀ w, (Instr.index 52 (.agg #[.int .i64 Y, .int .i64 M, .int .i64 D]) (.int .i64 1)).run Tryd.prog w = .ok (.int .i64 M) w := fun w => by kernel_rfl
    have ix2 : ∀ w, (Instr.index 52 (.agg #[.int .i64 Y, .int .i64 M, .int .i64 D]) (.int .i64 2)).run Tryd.prog w = .ok (.int .i64 D) w := fun w => by kernel_rfl
    go_loopw [23] (fun c wr => Below w.heap.size w wr ∧ (
        (c = .int .i64 0 ∧ Blk wr w1.heap.size 44 #[.int .u8 0, .int .u8 0, .int .u8 0, .int .u8 0, .int .u8 0, .int .u8 0, .int .u8 0, .int .u8 0, .int .u8 0, .int .u8 0]) ∨
        (c = .int .i64 1 ∧ Blk wr w1.heap.size 44 #[.int .u8 (48 + Y / 10 / 10 / 10 % 10), .int .u8 (48 + Y / 10 / 10 % 10), .int .u8 (48 + Y / 10 % 10), .int .u8 (48 + Y % 10), .int .u8 45, .int .u8 0, .int .u8 0, .int .u8 0, .int .u8 0, .int .u8 0]) ∨
        (c = .int .i64 2 ∧ Blk wr w1.heap.size 44 #[.int .u8 (48 + Y / 10 / 10 / 10 % 10), .int .u8 (48 + Y / 10 / 10 % 10), .int .u8 (48 + Y / 10 % 10), .int .u8 (48 + Y % 10), .int .u8 45, .int .u8 (48 + M / 10 % 10), .int .u8 (48 + M % 10), .int .u8 45, .int .u8 0, .int .u8 0]) ∨
        (c = .int .i64 3 ∧ Blk wr w1.heap.size 44 #[.int .u8 (48 + Y / 10 / 10 / 10 % 10), .int .u8 (48 + Y / 10 / 10 % 10), .int .u8 (48 + Y / 10 % 10), .int .u8 (48 + Y % 10), .int .u8 45, .int .u8 (48 + M / 10 % 10), .int .u8 (48 + M % 10), .int .u8 45, .int .u8 (48 + D / 10 % 10), .int .u8 (48 + D % 10)]))) (fun c _ => (3 - intOf c).toNat)
    case atStart => exact ⟨hb.alloc hb.size _, Or.inl ⟨rfl, Blk.new w1 _ _⟩⟩
    case round =>
      obtain ⟨hw, hrel⟩ := hrel
      have HLr := hid (HL.out.below hw)
      rcases hrel with ⟨rfl, hB⟩ | ⟨rfl, hB⟩ | ⟨rfl, hB⟩ | ⟨rfl, hB⟩
      · have hlt := hB.lt
        have g0 := (hB.cell 0).trans (b := some (Value.int .u8 (0))) rfl
        have g1 := (hB.cell 1).trans (b := some (Value.int .u8 (0))) rfl
        have g2 := (hB.cell 2).trans (b := some (Value.int .u8 (0))) rfl
        have g3 := (hB.cell 3).trans (b := some (Value.int .u8 (0))) rfl
        have g4 := (hB.cell 4).trans (b := some (Value.int .u8 (0))) rfl
        have g5 := (hB.cell 5).trans (b := some (Value.int .u8 (0))) rfl
        have g6 := (hB.cell 6).trans (b := some (Value.int .u8 (0))) rfl
        have g7 := (hB.cell 7).trans (b := some (Value.int .u8 (0))) rfl
        have g8 := (hB.cell 8).trans (b := some (Value.int .u8 (0))) rfl
        have g9 := (hB.cell 9).trans (b := some (Value.int .u8 (0))) rfl
        go_wp2_with fail
        refine (with0 Y _ _ _ _ _ _ _ _ _ _ (by omega) (by omega) HLr.out).mono ?_
        rintro e w2 ⟨rfl, h2⟩
        have hB2 := hB.below h2 hlt
        have hw2 := hw.trans (h2.mono hw.size)
        clear g0 g1 g2 g3 g4 g5 g6 g7 g8 g9
        have g0 := (hB2.cell 0).trans (b := some (Value.int .u8 (0))) rfl
        have q0 := hB2.frozen 0
        have g1 := (hB2.cell 1).trans (b := some (Value.int .u8 (0))) rfl
        have q1 := hB2.frozen 1
        have g2 := (hB2.cell 2).trans (b := some (Value.int .u8 (0))) rfl
        have q2 := hB2.frozen 2
        have g3 := (hB2.cell 3).trans (b := some (Value.int .u8 (0))) rfl
        have q3 := hB2.frozen 3
        have g4 := (hB2.cell 4).trans (b := some (Value.int .u8 (0))) rfl
        have q4 := hB2.frozen 4
        have g5 := (hB2.cell 5).trans (b := some (Value.int .u8 (0))) rfl
        have q5 := hB2.frozen 5
        have g6 := (hB2.cell 6).trans (b := some (Value.int .u8 (0))) rfl
        have q6 := hB2.frozen 6
        have g7 := (hB2.cell 7).trans (b := some (Value.int .u8 (0))) rfl
        have q7 := hB2.frozen 7
        have g8 := (hB2.cell 8).trans (b := some (Value.int .u8 (0))) rfl
        have q8 := hB2.frozen 8
        have g9 := (hB2.cell 9).trans (b := some (Value.int .u8 (0))) rfl
        have q9 := hB2.frozen 9
        go_wp2_with fail
        go_roundw
        case rel =>
          refine ⟨((((((((((hw2.setCell hb.size _).setCell hb.size _).setCell hb.size _).setCell hb.size _).setCell hb.size _).setCell hb.size _).setCell hb.size _).setCell hb.size _).setCell hb.size _).setCell hb.size _), Or.inr (Or.inl ⟨rfl, ?_⟩)⟩
          refine Blk.put_ (cs := #[.int .u8 (48 + Y / 10 / 10 / 10 % 10), .int .u8 (48 + Y / 10 / 10 % 10), .int .u8 (48 + Y / 10 % 10), .int .u8 (48 + Y % 10), .int .u8 45, .int .u8 0, .int .u8 0, .int .u8 0, .int .u8 0, .int .u8 0]) ?_ 9 _ rfl
          refine Blk.put_ (cs := #[.int .u8 (48 + Y / 10 / 10 / 10 % 10), .int .u8 (48 + Y / 10 / 10 % 10), .int .u8 (48 + Y / 10 % 10), .int .u8 (48 + Y % 10), .int .u8 45, .int .u8 0, .int .u8 0, .int .u8 0, .int .u8 0, .int .u8 0]) ?_ 8 _ rfl
          refine Blk.put_ (cs := #[.int .u8 (48 + Y / 10 / 10 / 10 % 10), .int .u8 (48 + Y / 10 / 10 % 10), .int .u8 (48 + Y / 10 % 10), .int .u8 (48 + Y % 10), .int .u8 45, .int .u8 0, .int .u8 0, .int .u8 0, .int .u8 0, .int .u8 0]) ?_ 7 _ rfl
          refine Blk.put_ (cs := #[.int .u8 (48 + Y / 10 / 10 / 10 % 10), .int .u8 (48 + Y / 10 / 10 % 10), .int .u8 (48 + Y / 10 % 10), .int .u8 (48 + Y % 10), .int .u8 45, .int .u8 0, .int .u8 0, .int .u8 0, .int .u8 0, .int .u8 0]) ?_ 6 _ rfl
          refine Blk.put_ (cs := #[.int .u8 (48 + Y / 10 / 10 / 10 % 10), .int .u8 (48 + Y / 10 / 10 % 10), .int .u8 (48 + Y / 10 % 10), .int .u8 (48 + Y % 10), .int .u8 45, .int .u8 0, .int .u8 0, .int .u8 0, .int .u8 0, .int .u8 0]) ?_ 5 _ rfl
          refine Blk.put_ (cs := #[.int .u8 (48 + Y / 10 / 10 / 10 % 10), .int .u8 (48 + Y / 10 / 10 % 10), .int .u8 (48 + Y / 10 % 10), .int .u8 (48 + Y % 10), .int .u8 0, .int .u8 0, .int .u8 0, .int .u8 0, .int .u8 0, .int .u8 0]) ?_ 4 _ rfl
          refine Blk.put_ (cs := #[.int .u8 (48 + Y / 10 / 10 / 10 % 10), .int .u8 (48 + Y / 10 / 10 % 10), .int .u8 (48 + Y / 10 % 10), .int .u8 0, .int .u8 0, .int .u8 0, .int .u8 0, .int .u8 0, .int .u8 0, .int .u8 0]) ?_ 3 _ rfl
          refine Blk.put_ (cs := #[.int .u8 (48 + Y / 10 / 10 / 10 % 10), .int .u8 (48 + Y / 10 / 10 % 10), .int .u8 0, .int .u8 0, .int .u8 0, .int .u8 0, .int .u8 0, .int .u8 0, .int .u8 0, .int .u8 0]) ?_ 2 _ rfl
          refine Blk.put_ (cs := #[.int .u8 (48 + Y / 10 / 10 / 10 % 10), .int .u8 0, .int .u8 0, .int .u8 0, .int .u8 0, .int .u8 0, .int .u8 0, .int .u8 0, .int .u8 0, .int .u8 0]) ?_ 1 _ rfl
          refine Blk.put_ (cs := #[.int .u8 0, .int .u8 0, .int .u8 0, .int .u8 0, .int .u8 0, .int .u8 0, .int .u8 0, .int .u8 0, .int .u8 0, .int .u8 0]) ?_ 0 _ rfl
          exact hB2
        case measure => simp [intOf]
      · have hlt := hB.lt
        have g0 := (hB.cell 0).trans (b := some (Value.int .u8 (48 + Y / 10 / 10 / 10 % 10))) rfl
        have g1 := (hB.cell 1).trans (b := some (Value.int .u8 (48 + Y / 10 / 10 % 10))) rfl
        have g2 := (hB.cell 2).trans (b := some (Value.int .u8 (48 + Y / 10 % 10))) rfl
        have g3 := (hB.cell 3).trans (b := some (Value.int .u8 (48 + Y % 10))) rfl
        have g4 := (hB.cell 4).trans (b := some (Value.int .u8 (45))) rfl
        have g5 := (hB.cell 5).trans (b := some (Value.int .u8 (0))) rfl
        have g6 := (hB.cell 6).trans (b := some (Value.int .u8 (0))) rfl
        have g7 := (hB.cell 7).trans (b := some (Value.int .u8 (0))) rfl
        have g8 := (hB.cell 8).trans (b := some (Value.int .u8 (0))) rfl
        have g9 := (hB.cell 9).trans (b := some (Value.int .u8 (0))) rfl
        go_wp2_with fail
        refine (with1 M _ _ _ _ _ _ _ _ _ _ (by omega) (by omega) HLr.out).mono ?_
        rintro e w2 ⟨rfl, h2⟩
        have hB2 := hB.below h2 hlt
        have hw2 := hw.trans (h2.mono hw.size)
        clear g0 g1 g2 g3 g4 g5 g6 g7 g8 g9
        have g0 := (hB2.cell 0).trans (b := some (Value.int .u8 (48 + Y / 10 / 10 / 10 % 10))) rfl
        have q0 := hB2.frozen 0
        have g1 := (hB2.cell 1).trans (b := some (Value.int .u8 (48 + Y / 10 / 10 % 10))) rfl
        have q1 := hB2.frozen 1
        have g2 := (hB2.cell 2).trans (b := some (Value.int .u8 (48 + Y / 10 % 10))) rfl
        have q2 := hB2.frozen 2
        have g3 := (hB2.cell 3).trans (b := some (Value.int .u8 (48 + Y % 10))) rfl
        have q3 := hB2.frozen 3
        have g4 := (hB2.cell 4).trans (b := some (Value.int .u8 (45))) rfl
        have q4 := hB2.frozen 4
        have g5 := (hB2.cell 5).trans (b := some (Value.int .u8 (0))) rfl
        have q5 := hB2.frozen 5
        have g6 := (hB2.cell 6).trans (b := some (Value.int .u8 (0))) rfl
        have q6 := hB2.frozen 6
        have g7 := (hB2.cell 7).trans (b := some (Value.int .u8 (0))) rfl
        have q7 := hB2.frozen 7
        have g8 := (hB2.cell 8).trans (b := some (Value.int .u8 (0))) rfl
        have q8 := hB2.frozen 8
        have g9 := (hB2.cell 9).trans (b := some (Value.int .u8 (0))) rfl
        have q9 := hB2.frozen 9
        go_wp2_with fail
        go_roundw
        case rel =>
          refine ⟨((((((((((hw2.setCell hb.size _).setCell hb.size _).setCell hb.size _).setCell hb.size _).setCell hb.size _).setCell hb.size _).setCell hb.size _).setCell hb.size _).setCell hb.size _).setCell hb.size _), Or.inr (Or.inr (Or.inl ⟨rfl, ?_⟩))⟩
          refine Blk.put_ (cs := #[.int .u8 (48 + Y / 10 / 10 / 10 % 10), .int .u8 (48 + Y / 10 / 10 % 10), .int .u8 (48 + Y / 10 % 10), .int .u8 (48 + Y % 10), .int .u8 45, .int .u8 (48 + M / 10 % 10), .int .u8 (48 + M % 10), .int .u8 45, .int .u8 0, .int .u8 0]) ?_ 9 _ rfl
          refine Blk.put_ (cs := #[.int .u8 (48 + Y / 10 / 10 / 10 % 10), .int .u8 (48 + Y / 10 / 10 % 10), .int .u8 (48 + Y / 10 % 10), .int .u8 (48 + Y % 10), .int .u8 45, .int .u8 (48 + M / 10 % 10), .int .u8 (48 + M % 10), .int .u8 45, .int .u8 0, .int .u8 0]) ?_ 8 _ rfl
          refine Blk.put_ (cs := #[.int .u8 (48 + Y / 10 / 10 / 10 % 10), .int .u8 (48 + Y / 10 / 10 % 10), .int .u8 (48 + Y / 10 % 10), .int .u8 (48 + Y % 10), .int .u8 45, .int .u8 (48 + M / 10 % 10), .int .u8 (48 + M % 10), .int .u8 0, .int .u8 0, .int .u8 0]) ?_ 7 _ rfl
          refine Blk.put_ (cs := #[.int .u8 (48 + Y / 10 / 10 / 10 % 10), .int .u8 (48 + Y / 10 / 10 % 10), .int .u8 (48 + Y / 10 % 10), .int .u8 (48 + Y % 10), .int .u8 45, .int .u8 (48 + M / 10 % 10), .int .u8 0, .int .u8 0, .int .u8 0, .int .u8 0]) ?_ 6 _ rfl
          refine Blk.put_ (cs := #[.int .u8 (48 + Y / 10 / 10 / 10 % 10), .int .u8 (48 + Y / 10 / 10 % 10), .int .u8 (48 + Y / 10 % 10), .int .u8 (48 + Y % 10), .int .u8 45, .int .u8 0, .int .u8 0, .int .u8 0, .int .u8 0, .int .u8 0]) ?_ 5 _ rfl
          refine Blk.put_ (cs := #[.int .u8 (48 + Y / 10 / 10 / 10 % 10), .int .u8 (48 + Y / 10 / 10 % 10), .int .u8 (48 + Y / 10 % 10), .int .u8 (48 + Y % 10), .int .u8 45, .int .u8 0, .int .u8 0, .int .u8 0, .int .u8 0, .int .u8 0]) ?_ 4 _ rfl
          refine Blk.put_ (cs := #[.int .u8 (48 + Y / 10 / 10 / 10 % 10), .int .u8 (48 + Y / 10 / 10 % 10), .int .u8 (48 + Y / 10 % 10), .int .u8 (48 + Y % 10), .int .u8 45, .int .u8 0, .int .u8 0, .int .u8 0, .int .u8 0, .int .u8 0]) ?_ 3 _ rfl
          refine Blk.put_ (cs := #[.int .u8 (48 + Y / 10 / 10 / 10 % 10), .int .u8 (48 + Y / 10 / 10 % 10), .int .u8 (48 + Y / 10 % 10), .int .u8 (48 + Y % 10), .int .u8 45, .int .u8 0, .int .u8 0, .int .u8 0, .int .u8 0, .int .u8 0]) ?_ 2 _ rfl
          refine Blk.put_ (cs := #[.int .u8 (48 + Y / 10 / 10 / 10 % 10), .int .u8 (48 + Y / 10 / 10 % 10), .int .u8 (48 + Y / 10 % 10), .int .u8 (48 + Y % 10), .int .u8 45, .int .u8 0, .int .u8 0, .int .u8 0, .int .u8 0, .int .u8 0]) ?_ 1 _ rfl
          refine Blk.put_ (cs := #[.int .u8 (48 + Y / 10 / 10 / 10 % 10), .int .u8 (48 + Y / 10 / 10 % 10), .int .u8 (48 + Y / 10 % 10), .int .u8 (48 + Y % 10), .int .u8 45, .int .u8 0, .int .u8 0, .int .u8 0, .int .u8 0, .int .u8 0]) ?_ 0 _ rfl
          exact hB2
        case measure => simp [intOf]
      · have hlt := hB.lt
        have g0 := (hB.cell 0).trans (b := some (Value.int .u8 (48 + Y / 10 / 10 / 10 % 10))) rfl
        have g1 := (hB.cell 1).trans (b := some (Value.int .u8 (48 + Y / 10 / 10 % 10))) rfl
        have g2 := (hB.cell 2).trans (b := some (Value.int .u8 (48 + Y / 10 % 10))) rfl
        have g3 := (hB.cell 3).trans (b := some (Value.int .u8 (48 + Y % 10))) rfl
        have g4 := (hB.cell 4).trans (b := some (Value.int .u8 (45))) rfl
        have g5 := (hB.cell 5).trans (b := some (Value.int .u8 (48 + M / 10 % 10))) rfl
        have g6 := (hB.cell 6).trans (b := some (Value.int .u8 (48 + M % 10))) rfl
        have g7 := (hB.cell 7).trans (b := some (Value.int .u8 (45))) rfl
        have g8 := (hB.cell 8).trans (b := some (Value.int .u8 (0))) rfl
        have g9 := (hB.cell 9).trans (b := some (Value.int .u8 (0))) rfl
        go_wp2_with fail
        refine (with2 D _ _ _ _ _ _ _ _ _ _ (by omega) (by omega) HLr.out).mono ?_
        rintro e w2 ⟨rfl, h2⟩
        have hB2 := hB.below h2 hlt
        have hw2 := hw.trans (h2.mono hw.size)
        clear g0 g1 g2 g3 g4 g5 g6 g7 g8 g9
        have g0 := (hB2.cell 0).trans (b := some (Value.int .u8 (48 + Y / 10 / 10 / 10 % 10))) rfl
        have q0 := hB2.frozen 0
        have g1 := (hB2.cell 1).trans (b := some (Value.int .u8 (48 + Y / 10 / 10 % 10))) rfl
        have q1 := hB2.frozen 1
        have g2 := (hB2.cell 2).trans (b := some (Value.int .u8 (48 + Y / 10 % 10))) rfl
        have q2 := hB2.frozen 2
        have g3 := (hB2.cell 3).trans (b := some (Value.int .u8 (48 + Y % 10))) rfl
        have q3 := hB2.frozen 3
        have g4 := (hB2.cell 4).trans (b := some (Value.int .u8 (45))) rfl
        have q4 := hB2.frozen 4
        have g5 := (hB2.cell 5).trans (b := some (Value.int .u8 (48 + M / 10 % 10))) rfl
        have q5 := hB2.frozen 5
        have g6 := (hB2.cell 6).trans (b := some (Value.int .u8 (48 + M % 10))) rfl
        have q6 := hB2.frozen 6
        have g7 := (hB2.cell 7).trans (b := some (Value.int .u8 (45))) rfl
        have q7 := hB2.frozen 7
        have g8 := (hB2.cell 8).trans (b := some (Value.int .u8 (0))) rfl
        have q8 := hB2.frozen 8
        have g9 := (hB2.cell 9).trans (b := some (Value.int .u8 (0))) rfl
        have q9 := hB2.frozen 9
        go_wp2_with fail
        go_roundw
        case rel =>
          refine ⟨((((((((((hw2.setCell hb.size _).setCell hb.size _).setCell hb.size _).setCell hb.size _).setCell hb.size _).setCell hb.size _).setCell hb.size _).setCell hb.size _).setCell hb.size _).setCell hb.size _), Or.inr (Or.inr (Or.inr (⟨rfl, ?_⟩)))⟩
          refine Blk.put_ (cs := #[.int .u8 (48 + Y / 10 / 10 / 10 % 10), .int .u8 (48 + Y / 10 / 10 % 10), .int .u8 (48 + Y / 10 % 10), .int .u8 (48 + Y % 10), .int .u8 45, .int .u8 (48 + M / 10 % 10), .int .u8 (48 + M % 10), .int .u8 45, .int .u8 (48 + D / 10 % 10), .int .u8 0]) ?_ 9 _ rfl
          refine Blk.put_ (cs := #[.int .u8 (48 + Y / 10 / 10 / 10 % 10), .int .u8 (48 + Y / 10 / 10 % 10), .int .u8 (48 + Y / 10 % 10), .int .u8 (48 + Y % 10), .int .u8 45, .int .u8 (48 + M / 10 % 10), .int .u8 (48 + M % 10), .int .u8 45, .int .u8 0, .int .u8 0]) ?_ 8 _ rfl
          refine Blk.put_ (cs := #[.int .u8 (48 + Y / 10 / 10 / 10 % 10), .int .u8 (48 + Y / 10 / 10 % 10), .int .u8 (48 + Y / 10 % 10), .int .u8 (48 + Y % 10), .int .u8 45, .int .u8 (48 + M / 10 % 10), .int .u8 (48 + M % 10), .int .u8 45, .int .u8 0, .int .u8 0]) ?_ 7 _ rfl
          refine Blk.put_ (cs := #[.int .u8 (48 + Y / 10 / 10 / 10 % 10), .int .u8 (48 + Y / 10 / 10 % 10), .int .u8 (48 + Y / 10 % 10), .int .u8 (48 + Y % 10), .int .u8 45, .int .u8 (48 + M / 10 % 10), .int .u8 (48 + M % 10), .int .u8 45, .int .u8 0, .int .u8 0]) ?_ 6 _ rfl
          refine Blk.put_ (cs := #[.int .u8 (48 + Y / 10 / 10 / 10 % 10), .int .u8 (48 + Y / 10 / 10 % 10), .int .u8 (48 + Y / 10 % 10), .int .u8 (48 + Y % 10), .int .u8 45, .int .u8 (48 + M / 10 % 10), .int .u8 (48 + M % 10), .int .u8 45, .int .u8 0, .int .u8 0]) ?_ 5 _ rfl
          refine Blk.put_ (cs := #[.int .u8 (48 + Y / 10 / 10 / 10 % 10), .int .u8 (48 + Y / 10 / 10 % 10), .int .u8 (48 + Y / 10 % 10), .int .u8 (48 + Y % 10), .int .u8 45, .int .u8 (48 + M / 10 % 10), .int .u8 (48 + M % 10), .int .u8 45, .int .u8 0, .int .u8 0]) ?_ 4 _ rfl
          refine Blk.put_ (cs := #[.int .u8 (48 + Y / 10 / 10 / 10 % 10), .int .u8 (48 + Y / 10 / 10 % 10), .int .u8 (48 + Y / 10 % 10), .int .u8 (48 + Y % 10), .int .u8 45, .int .u8 (48 + M / 10 % 10), .int .u8 (48 + M % 10), .int .u8 45, .int .u8 0, .int .u8 0]) ?_ 3 _ rfl
          refine Blk.put_ (cs := #[.int .u8 (48 + Y / 10 / 10 / 10 % 10), .int .u8 (48 + Y / 10 / 10 % 10), .int .u8 (48 + Y / 10 % 10), .int .u8 (48 + Y % 10), .int .u8 45, .int .u8 (48 + M / 10 % 10), .int .u8 (48 + M % 10), .int .u8 45, .int .u8 0, .int .u8 0]) ?_ 2 _ rfl
          refine Blk.put_ (cs := #[.int .u8 (48 + Y / 10 / 10 / 10 % 10), .int .u8 (48 + Y / 10 / 10 % 10), .int .u8 (48 + Y / 10 % 10), .int .u8 (48 + Y % 10), .int .u8 45, .int .u8 (48 + M / 10 % 10), .int .u8 (48 + M % 10), .int .u8 45, .int .u8 0, .int .u8 0]) ?_ 1 _ rfl
          refine Blk.put_ (cs := #[.int .u8 (48 + Y / 10 / 10 / 10 % 10), .int .u8 (48 + Y / 10 / 10 % 10), .int .u8 (48 + Y / 10 % 10), .int .u8 (48 + Y % 10), .int .u8 45, .int .u8 (48 + M / 10 % 10), .int .u8 (48 + M % 10), .int .u8 45, .int .u8 0, .int .u8 0]) ?_ 0 _ rfl
          exact hB2
        case measure => simp [intOf]
      · have hlt := hB.lt
        have hcv : (convert 33 9 (.slice (some ⟨w1.heap.size, 0, none⟩) 10 10)).run Tryd.prog wr = .ok (.string (strOfNums (txtI Y M D))) wr :=
          run_convert_bytes_arg _ 33 5 Tryd.underlying33 Tryd.underlying5 w1.heap.size 0 10 10 (txtI Y M D) rfl (fun i hi => by
            rcases (by omega : i = 0 ∨ i = 1 ∨ i = 2 ∨ i = 3 ∨ i = 4 ∨ i = 5 ∨ i = 6 ∨ i = 7 ∨ i = 8 ∨ i = 9) with h | h | h | h | h | h | h | h | h | h <;> subst h
            · exact (hB.cell 0).trans (b := some (Value.int .u8 (48 + Y / 10 / 10 / 10 % 10))) rfl
            · exact (hB.cell 1).trans (b := some (Value.int .u8 (48 + Y / 10 / 10 % 10))) rfl
            · exact (hB.cell 2).trans (b := some (Value.int .u8 (48 + Y / 10 % 10))) rfl
            · exact (hB.cell 3).trans (b := some (Value.int .u8 (48 + Y % 10))) rfl
            · exact (hB.cell 4).trans (b := some (Value.int .u8 (45))) rfl
            · exact (hB.cell 5).trans (b := some (Value.int .u8 (48 + M / 10 % 10))) rfl
            · exact (hB.cell 6).trans (b := some (Value.int .u8 (48 + M % 10))) rfl
            · exact (hB.cell 7).trans (b := some (Value.int .u8 (45))) rfl
            · exact (hB.cell 8).trans (b := some (Value.int .u8 (48 + D / 10 % 10))) rfl
            · exact (hB.cell 9).trans (b := some (Value.int .u8 (48 + D % 10))) rfl) 9 Tryd.underlying9
        have g0 := (hB.cell 0).trans (b := some (Value.int .u8 (48 + Y / 10 / 10 / 10 % 10))) rfl
        have g1 := (hB.cell 1).trans (b := some (Value.int .u8 (48 + Y / 10 / 10 % 10))) rfl
        have g2 := (hB.cell 2).trans (b := some (Value.int .u8 (48 + Y / 10 % 10))) rfl
        have g3 := (hB.cell 3).trans (b := some (Value.int .u8 (48 + Y % 10))) rfl
        have g4 := (hB.cell 4).trans (b := some (Value.int .u8 (45))) rfl
        have g5 := (hB.cell 5).trans (b := some (Value.int .u8 (48 + M / 10 % 10))) rfl
        have g6 := (hB.cell 6).trans (b := some (Value.int .u8 (48 + M % 10))) rfl
        have g7 := (hB.cell 7).trans (b := some (Value.int .u8 (45))) rfl
        have g8 := (hB.cell 8).trans (b := some (Value.int .u8 (48 + D / 10 % 10))) rfl
        have g9 := (hB.cell 9).trans (b := some (Value.int .u8 (48 + D % 10))) rfl
        go_wp2
        go_ret
        exact ⟨rfl, hw⟩
  · have ⟨e1, e2, e3, e4, _, _⟩ := ymd_out h
    rw [e1, e2, e3, e4] at HC
    rw [text_out h]
    clear e1 e2 e3 e4 h hL
    go_enter Tryd.func35, Tryd.ntmps35
    go_wp2_with (go_at_call 28; refine (HC.out _ HL.out).mono ?_; rintro e w1 ⟨rfl, hb⟩)
    go_ret
    exact ⟨rfl, hb⟩
end Go.Proofs.YtmpkjooglpomoaaDoor
