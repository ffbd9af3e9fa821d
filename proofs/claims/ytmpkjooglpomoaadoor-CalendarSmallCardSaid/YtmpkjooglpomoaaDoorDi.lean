/- CalendarTells' function returns true. -/
import Derived.Test.YtmpkjooglpomoaaDoorCj
import Derived.Test.YtmpkjooglpomoaaDoorCm
import Derived.Test.YtmpkjooglpomoaaDoorDj
namespace Go.Proofs.YtmpkjooglpomoaaDoor
open Go.RowKit Go.Lib

set_option maxRecDepth 100000 in
set_option maxHeartbeats 2000000 in
theorem tells_any (d : Int) {w : World} (hL : Laid w) :
    Calls Tryd.prog 22 #[.int .i64 d] w fun e w' => e = .returned (.bool true) ∧ Below w.heap.size w w' := by
  have HL := hid hL
  clear hL
  have h1 := Below.refl w.heap.size w
  have H1 := hid (fun w1 (h1 : Laid w1) => ymd_any d h1)
  have H2 := hid (fun w1 => rymd_any d w1)
  have H3 := hid (fun w1 (h1 : Laid w1) => month_any d h1)
  have H4 := hid (fun w1 => rmonth_any d w1)
  have H5 := hid (fun w1 (h1 : Laid w1) => first_any d h1)
  have H6 := hid (fun w1 => rfirst_any d w1)
  have H7 := hid (fun w1 => weekday_any d w1)
  have H8 := hid (fun w1 => rweekday_any d w1)
  have H9 := hid (fun w1 (h1 : Laid w1) => text_any d h1)
  have H10 := hid (fun w1 => rtext_any d w1)
  generalize ymdY d = v1 at *
  generalize ymdM d = v2 at *
  generalize ymdD d = v3 at *
  generalize errD d = v4 at *
  generalize monV d = v5 at *
  generalize fstV d = v6 at *
  generalize fstE d = v7 at *
  generalize wkV d = v8 at *
  generalize textV d = v9 at *
  go_enter Tryd.func22, Tryd.ntmps22
  go_wp2_with fail
  refine (H1.out _ (HL.out.below h1)).mono ?_
  rintro e u ⟨rfl, hx⟩; replace h1 := h1.trans (hx.mono h1.size); clear hx
  go_wp2_with fail
  refine (H2.out _).mono ?_
  rintro e u ⟨rfl, rfl⟩
  go_wp2_with fail
  refine (H3.out _ (HL.out.below h1)).mono ?_
  rintro e u ⟨rfl, hx⟩; replace h1 := h1.trans (hx.mono h1.size); clear hx
  go_wp2_with fail
  refine (H4.out _).mono ?_
  rintro e u ⟨rfl, rfl⟩
  go_wp2_with fail
  refine (H5.out _ (HL.out.below h1)).mono ?_
  rintro e u ⟨rfl, hx⟩; replace h1 := h1.trans (hx.mono h1.size); clear hx
  go_wp2_with fail
  refine (H6.out _).mono ?_
  rintro e u ⟨rfl, rfl⟩
  go_wp2_with fail
  refine (H7.out _).mono ?_
  rintro e u ⟨rfl, hx⟩; replace h1 := h1.trans (hx.mono h1.size); clear hx
  go_wp2_with fail
  refine (H8.out _).mono ?_
  rintro e u ⟨rfl, rfl⟩
  go_wp2_with fail
  refine (H9.out _ (HL.out.below h1)).mono ?_
  rintro e u ⟨rfl, hx⟩; replace h1 := h1.trans (hx.mono h1.size); clear hx
  go_wp2_with fail
  refine (H10.out _).mono ?_
  rintro e u ⟨rfl, hx⟩; replace h1 := h1.trans (hx.mono h1.size); clear hx
  go_wp2_with fail
  go_ret
  exact ⟨rfl, h1⟩

set_option maxRecDepth 100000 in
set_option maxHeartbeats 2000000 in
theorem tells_law (d : Int) {w : World} (hL : Laid w) :
    Calls Tryd.prog 4 #[.int .i64 d] w fun e w' => e = .returned (.bool true) ∧ Below w.heap.size w w' := by
  have HL := hid hL
  clear hL
  have h1 := Below.refl w.heap.size w
  go_enter Tryd.func4, Tryd.ntmps4
  go_wp2_with fail
  refine (tells_any _ (HL.out.below h1)).mono ?_
  rintro e u ⟨rfl, hx⟩; replace h1 := h1.trans (hx.mono h1.size); clear hx
  go_wp2_with fail
  refine (awake_any (HL.out.below h1)).mono ?_
  rintro e u ⟨rfl, hx⟩; replace h1 := h1.trans (hx.mono h1.size); clear hx
  go_wp2_with fail
  go_ret
  exact ⟨rfl, h1⟩
end Go.Proofs.YtmpkjooglpomoaaDoor
