/- CalendarMoves' function returns true. -/
import Derived.Test.YtmpkjooglpomoaaDoorCj
import Derived.Test.YtmpkjooglpomoaaDoorCm
namespace Go.Proofs.YtmpkjooglpomoaaDoor
open Go.RowKit Go.Lib

set_option maxRecDepth 100000 in
set_option maxHeartbeats 2000000 in
theorem moves_any (a b n : Int) {w : World} (hL : Laid w) :
    Calls Tryd.prog 23 #[.int .i64 a, .int .i64 b, .int .i64 n] w fun e w' => e = .returned (.bool true) ∧ Below w.heap.size w w' := by
  have HL := hid hL
  clear hL
  have h1 := Below.refl w.heap.size w
  have H1 := hid (fun w1 (h1 : Laid w1) => add_any a n h1)
  have H2 := hid (fun w1 => radd_any a n w1)
  have H3 := hid (fun w1 (h1 : Laid w1) => between_any a b h1)
  have H4 := hid (fun w1 => rbetween_any a b w1)
  have H5 := hid (fun w1 (h1 : Laid w1) => age_any a b h1)
  have H6 := hid (fun w1 => rage_any a b w1)
  generalize addV a n = v1 at *
  generalize addE a n = v2 at *
  generalize betV a b = v3 at *
  generalize errDD a b = v4 at *
  generalize ageV a b = v5 at *
  generalize ageE a b = v6 at *
  go_enter Tryd.func23, Tryd.ntmps23
  go_wp2_with fail
  refine (H1.out _ (HL.out.below h1)).mono ?_
  rintro e u ⟨rfl, hx⟩; replace h1 := h1.trans (hx.mono h1.size); clear hx
  go_wp2_with fail
  refine (H2.out _).mono ?_
  rintro e u ⟨rfl, rfl⟩
  go_wp2_with fail
  refine (H3.out _ (HL.out.below h1)).mono ?_
  rintro e u ⟨rfl, hx⟩; replace h1 := h1.trans (hx.mono h1.size); clear hx
  go_wp2_with fail
  refine (H4.out _).mono ?_
  rintro e u ⟨rfl, rfl⟩
  go_wp2_with fail
  refine (H5.out _ (HL.out.below h1)).mono ?_
  rintro e u ⟨rfl, hx⟩; replace h1 := h1.trans (hx.mono h1.size); clear hx
  go_wp2_with fail
  refine (H6.out _).mono ?_
  rintro e u ⟨rfl, rfl⟩
  go_wp2_with fail
  go_ret
  exact ⟨rfl, h1⟩

set_option maxRecDepth 100000 in
set_option maxHeartbeats 2000000 in
theorem moves_law (a b n : Int) {w : World} (hL : Laid w) :
    Calls Tryd.prog 5 #[.int .i64 a, .int .i64 b, .int .i64 n] w fun e w' => e = .returned (.bool true) ∧ Below w.heap.size w w' := by
  have HL := hid hL
  clear hL
  have h1 := Below.refl w.heap.size w
  go_enter Tryd.func5, Tryd.ntmps5
  go_wp2_with fail
  refine (moves_any _ _ _ (HL.out.below h1)).mono ?_
  rintro e u ⟨rfl, hx⟩; replace h1 := h1.trans (hx.mono h1.size); clear hx
  go_wp2_with fail
  refine (moves_any _ _ _ (HL.out.below h1)).mono ?_
  rintro e u ⟨rfl, hx⟩; replace h1 := h1.trans (hx.mono h1.size); clear hx
  go_wp2_with fail
  refine (awake_any (HL.out.below h1)).mono ?_
  rintro e u ⟨rfl, hx⟩; replace h1 := h1.trans (hx.mono h1.size); clear hx
  go_wp2_with fail
  go_ret
  exact ⟨rfl, h1⟩
end Go.Proofs.YtmpkjooglpomoaaDoor
