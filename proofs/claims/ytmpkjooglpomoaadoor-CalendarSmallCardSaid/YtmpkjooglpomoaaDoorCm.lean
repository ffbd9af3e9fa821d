/- The chapter's examples, as the laws check them. -/
import Derived.Test.YtmpkjooglpomoaaDoorCg
import Derived.Test.YtmpkjooglpomoaaDoorCl
namespace Go.Proofs.YtmpkjooglpomoaaDoor
open Go.RowKit Go.Lib

theorem ex_text : textV 36583 = ⟨#[50, 48, 48, 48, 45, 48, 50, 45, 50, 57]⟩ := by
  rw [text_in (by decide), mon_36583]; decide
theorem ex_text2 : textV 65535 = ⟨#[50, 48, 55, 57, 45, 48, 54, 45, 48, 54]⟩ := by
  rw [text_in (by decide), mon_65535]; decide
theorem ex_day0 : dayV 1900 2 29 = 0 := by decide
theorem ex_late0 : addV 65535 1 = 0 :=
  (addV_no (d := 65535) (n := 1) (by decide) (by rintro ⟨h, _⟩; rw [mon_65535] at h; exact absurd h (by decide))).1

section
variable {w : World} (hL : Laid w)
include hL
theorem aw1 : Calls Tryd.prog 15 #[.int .i64 2000, .int .i64 2, .int .i64 29] w fun e w' => e = .returned (.tuple #[.int .i64 36583, .int .i64 0]) ∧ Below w.heap.size w w' := by
  have := day_any 2000 2 29 hL (by omega); rwa [ex_day.1, ex_day.2] at this
theorem aw2 : Calls Tryd.prog 15 #[.int .i64 1900, .int .i64 2, .int .i64 29] w fun e w' => e = .returned (.tuple #[.int .i64 0, .int .i64 2]) ∧ Below w.heap.size w w' := by
  have := day_any 1900 2 29 hL (by omega); rwa [ex_day0, ex_day2] at this
theorem aw3 : Calls Tryd.prog 32 #[.int .i64 36583, .int .i64 12] w fun e w' => e = .returned (.tuple #[.int .i64 36948, .int .i64 0]) ∧ Below w.heap.size w w' := by
  have := add_any 36583 12 hL; rwa [ex_add.1, ex_add.2] at this
theorem aw4 : Calls Tryd.prog 32 #[.int .i64 36583, .int .i64 (-1)] w fun e w' => e = .returned (.tuple #[.int .i64 36552, .int .i64 0]) ∧ Below w.heap.size w w' := by
  have := add_any 36583 (-1) hL; rwa [ex_sub.1, ex_sub.2] at this
theorem aw5 : Calls Tryd.prog 32 #[.int .i64 65535, .int .i64 1] w fun e w' => e = .returned (.tuple #[.int .i64 0, .int .i64 30]) ∧ Below w.heap.size w w' := by
  have := add_any 65535 1 hL; rwa [ex_late0, ex_late] at this
theorem aw6 : Calls Tryd.prog 33 #[.int .i64 30, .int .i64 58] w fun e w' => e = .returned (.tuple #[.int .i64 1, .int .i64 0]) ∧ Below w.heap.size w w' := by
  have := between_any 30 58 hL; rwa [ex_bet.1, ex_errs.1] at this
theorem aw7 : Calls Tryd.prog 33 #[.int .i64 58, .int .i64 30] w fun e w' => e = .returned (.tuple #[.int .i64 (-1), .int .i64 0]) ∧ Below w.heap.size w w' := by
  have := between_any 58 30 hL; rwa [ex_bet.2, ex_errs.2.1] at this
theorem aw8 : Calls Tryd.prog 34 #[.int .i64 36583, .int .i64 36947] w fun e w' => e = .returned (.tuple #[.int .i64 0, .int .i64 0]) ∧ Below w.heap.size w w' := by
  have := age_any 36583 36947 hL; rwa [ex_age.1, ex_errs.2.2.1] at this
theorem aw9 : Calls Tryd.prog 34 #[.int .i64 36583, .int .i64 36948] w fun e w' => e = .returned (.tuple #[.int .i64 1, .int .i64 0]) ∧ Below w.heap.size w w' := by
  have := age_any 36583 36948 hL; rwa [ex_age.2, ex_errs.2.2.2.1] at this
theorem aw10 : Calls Tryd.prog 30 #[.int .i64 36583] w fun e w' => e = .returned (.tuple #[.int .i64 1201, .int .i64 0]) ∧ Below w.heap.size w w' := by
  have := month_any 36583 hL; rwa [ex_mon, ex_errs.2.2.2.2.1] at this
theorem aw11 : Calls Tryd.prog 31 #[.int .i64 1201] w fun e w' => e = .returned (.tuple #[.int .i64 36555, .int .i64 0]) ∧ Below w.heap.size w w' := by
  have := first_any 1201 hL; rwa [ex_fst, ex_errs.2.2.2.2.2] at this
omit hL in
theorem aw12 : Calls Tryd.prog 29 #[.int .i64 36583] w fun e w' => e = .returned (.tuple #[.int .i64 2, .int .i64 0]) ∧ Below w.heap.size w w' := by
  have := weekday_any 36583 w; rwa [ex_wk, ex_errs.2.2.2.2.1] at this
theorem aw13 : Calls Tryd.prog 35 #[.int .i64 36583] w fun e w' => e = .returned (.string ⟨#[50, 48, 48, 48, 45, 48, 50, 45, 50, 57]⟩) ∧ Below w.heap.size w w' := by
  have := text_any 36583 hL; rwa [ex_text] at this
theorem aw14 : Calls Tryd.prog 35 #[.int .i64 65535] w fun e w' => e = .returned (.string ⟨#[50, 48, 55, 57, 45, 48, 54, 45, 48, 54]⟩) ∧ Below w.heap.size w w' := by
  have := text_any 65535 hL; rwa [ex_text2] at this
end

set_option maxRecDepth 100000 in
set_option maxHeartbeats 20000000 in
theorem awake_any {w : World} (hL : Laid w) : Calls Tryd.prog 21 #[] w fun e w' => e = .returned (.bool true) ∧ Below w.heap.size w w' := by
  have HL := hid hL
  clear hL
  have h := Below.refl w.heap.size w
  go_enter Tryd.func21, Tryd.ntmps21
  iterate 14
    go_wp2_with fail
    first
      | (go_at_call 15; (with_reducible refine (aw1 (HL.out.below h)).mono ?_); rintro e u ⟨rfl, hx⟩; replace h := h.trans (hx.mono h.size); clear hx)
      | (go_at_call 15; (with_reducible refine (aw2 (HL.out.below h)).mono ?_); rintro e u ⟨rfl, hx⟩; replace h := h.trans (hx.mono h.size); clear hx)
      | (go_at_call 32; (with_reducible refine (aw3 (HL.out.below h)).mono ?_); rintro e u ⟨rfl, hx⟩; replace h := h.trans (hx.mono h.size); clear hx)
      | (go_at_call 32; (with_reducible refine (aw4 (HL.out.below h)).mono ?_); rintro e u ⟨rfl, hx⟩; replace h := h.trans (hx.mono h.size); clear hx)
      | (go_at_call 32; (with_reducible refine (aw5 (HL.out.below h)).mono ?_); rintro e u ⟨rfl, hx⟩; replace h := h.trans (hx.mono h.size); clear hx)
      | (go_at_call 33; (with_reducible refine (aw6 (HL.out.below h)).mono ?_); rintro e u ⟨rfl, hx⟩; replace h := h.trans (hx.mono h.size); clear hx)
      | (go_at_call 33; (with_reducible refine (aw7 (HL.out.below h)).mono ?_); rintro e u ⟨rfl, hx⟩; replace h := h.trans (hx.mono h.size); clear hx)
      | (go_at_call 34; (with_reducible refine (aw8 (HL.out.below h)).mono ?_); rintro e u ⟨rfl, hx⟩; replace h := h.trans (hx.mono h.size); clear hx)
      | (go_at_call 34; (with_reducible refine (aw9 (HL.out.below h)).mono ?_); rintro e u ⟨rfl, hx⟩; replace h := h.trans (hx.mono h.size); clear hx)
      | (go_at_call 30; (with_reducible refine (aw10 (HL.out.below h)).mono ?_); rintro e u ⟨rfl, hx⟩; replace h := h.trans (hx.mono h.size); clear hx)
      | (go_at_call 31; (with_reducible refine (aw11 (HL.out.below h)).mono ?_); rintro e u ⟨rfl, hx⟩; replace h := h.trans (hx.mono h.size); clear hx)
      | (go_at_call 29; (with_reducible refine (aw12).mono ?_); rintro e u ⟨rfl, hx⟩; replace h := h.trans (hx.mono h.size); clear hx)
      | (go_at_call 35; (with_reducible refine (aw13 (HL.out.below h)).mono ?_); rintro e u ⟨rfl, hx⟩; replace h := h.trans (hx.mono h.size); clear hx)
      | (go_at_call 35; (with_reducible refine (aw14 (HL.out.below h)).mono ?_); rintro e u ⟨rfl, hx⟩; replace h := h.trans (hx.mono h.size); clear hx)
  go_wp2_with fail
  go_ret
  exact ⟨rfl, h⟩
end Go.Proofs.YtmpkjooglpomoaaDoor
