/- CalendarReads' function returns true. -/
import Derived.Test.YtmpkjooglpomoaaDoorFd
import Derived.Test.YtmpkjooglpomoaaDoorCm
namespace Go.Proofs.YtmpkjooglpomoaaDoor
open Go.RowKit Go.Lib

set_option maxRecDepth 100000 in
set_option maxHeartbeats 2000000 in
theorem reads_law (s : ByteArray) {w : World} (hL : Laid w) (hm : s.size ≤ 9223372036854775807) :
    Calls Tryd.prog 6 #[.string s] w fun e w' => e = .returned (.bool true) ∧ Below w.heap.size w w' := by
  have HL := hid hL
  clear hL
  have h1 := Below.refl w.heap.size w
  have H1 := hid (fun w1 (h1 : Laid w1) => parse_any (s := s) h1 hm)
  have H2 := hid (fun w1 => rparse_any (s := s) (w := w1) hm)
  generalize parseV s = v1 at *
  generalize parseE s = v2 at *
  by_cases hl : 100 < s.size
  · go_enter Tryd.func6, Tryd.ntmps6
    go_wp2_with fail
    refine (awake_any (HL.out.below h1)).mono ?_
    rintro e u ⟨rfl, hx⟩; replace h1 := h1.trans (hx.mono h1.size); clear hx
    go_wp2_with fail
    go_ret
    exact ⟨rfl, h1⟩
  · go_enter Tryd.func6, Tryd.ntmps6
    go_wp2_with fail
    refine (H1.out _ (HL.out.below h1)).mono ?_
    rintro e u ⟨rfl, hx⟩; replace h1 := h1.trans (hx.mono h1.size); clear hx
    go_wp2_with fail
    refine (H2.out _).mono ?_
    rintro e u ⟨rfl, hx⟩; replace h1 := h1.trans (hx.mono h1.size); clear hx
    go_wp2_with fail
    refine (awake_any (HL.out.below h1)).mono ?_
    rintro e u ⟨rfl, hx⟩; replace h1 := h1.trans (hx.mono h1.size); clear hx
    go_wp2_with fail
    go_ret
    exact ⟨rfl, h1⟩
end Go.Proofs.YtmpkjooglpomoaaDoor
