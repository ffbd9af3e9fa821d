/- CalendarDays' function returns true. -/
import Derived.Test.YtmpkjooglpomoaaDoorCj
import Derived.Test.YtmpkjooglpomoaaDoorCm
namespace Go.Proofs.YtmpkjooglpomoaaDoor
open Go.RowKit Go.Lib

set_option maxRecDepth 100000 in
set_option maxHeartbeats 2000000 in
theorem days_law (y m d : Int) {w : World} (hL : Laid w) (hd : d ≤ 9223372036854775807) :
    Calls Tryd.prog 3 #[.int .i64 y, .int .i64 m, .int .i64 d] w fun e w' => e = .returned (.bool true) ∧ Below w.heap.size w w' := by
  have HL := hid hL
  have H1 := hid (day_any y m d hL hd)
  have H2 := hid (fun w1 => rday_any y m d w1)
  have H3 := hid (fun w1 => leap_any y w1)
  have H4 := hid (fun w1 => rleap_any y w1)
  have H5 := hid (fun w1 (h1 : Laid w1) => len_any y m h1)
  have H6 := hid (fun w1 => rlen_any y m w1)
  generalize dayV y m d = V at *
  generalize dayE y m d = E at *
  generalize leapB y = B at *
  generalize lenM y m = L at *
  clear hL hd
  go_enter Tryd.func3, Tryd.ntmps3
  go_wp2_with (first
    | (go_at_call 15; refine H1.out.mono ?_; rintro e u1 ⟨rfl, h1⟩)
    | (go_at_call 16; refine (H2.out _).mono ?_; rintro e u ⟨rfl, rfl⟩)
    | (go_at_call 17; refine (H3.out _).mono ?_; rintro e u ⟨rfl, rfl⟩)
    | (go_at_call 18; refine (H4.out _).mono ?_; rintro e u ⟨rfl, rfl⟩)
    | (go_at_call 19; refine (H5.out _ (HL.out.below h1)).mono ?_; rintro e u ⟨rfl, rfl⟩)
    | (go_at_call 20; refine (H6.out _).mono ?_; rintro e u ⟨rfl, rfl⟩)
    | (go_at_call 21; refine (awake_any (HL.out.below h1)).mono ?_; rintro e u ⟨rfl, h2⟩)
    | fail)
  go_ret
  exact ⟨rfl, h1.trans (h2.mono h1.size)⟩
end Go.Proofs.YtmpkjooglpomoaaDoor
