/- The example of a text that is no decimal form. Conditions: none. -/
import Derived.Test.YtgnidjhfiagfnaaWx
import Derived.Test.YtgnidjhfiagfnaaShelf
namespace Go.Proofs.Ytgnidjhfiagfnaa
open Go.RowKit

set_option maxRecDepth 100000 in
set_option maxHeartbeats 400000 in
theorem decimal_007 (w : World) : Calls Try.prog 52 #[.string ⟨#[48, 48, 55]⟩] w fun e w' => e = .returned (.bool false) ∧ w' = w := by
  go_enter Try.func52, Try.ntmps52
  go_wp2
  go_ret
  exact ⟨rfl, rfl⟩

set_option maxRecDepth 100000 in
set_option maxHeartbeats 400000 in
theorem parse_007 (w : World) : Calls Try.prog 23 #[.string ⟨#[48, 48, 55]⟩] w fun e w' => ∃ v, e = .returned (.tuple #[v, .int .i64 10]) ∧ WhZ w' v 0 ∧ Below w.heap.size w w' := by
  have H1 : Hid (∀ W, Calls Try.prog 51 #[.string ⟨#[48, 48, 55]⟩, .string ⟨#[45]⟩] W fun e w' => e = .returned (.tuple #[.string ⟨#[48, 48, 55]⟩, .bool false]) ∧ w' = W) := fun W => by
    have := Try.strings_CutPrefix ⟨#[48, 48, 55]⟩ ⟨#[45]⟩ W
    exact this
  have b0 := Blk.new w 26 #[.bool false, .slice none 0 0]
  have g0 := (b0.cell 0).trans (b := some (Value.bool false)) rfl
  go_enter Try.func23, Try.ntmps23
  go_wp2_with (first | (go_at_call 51; refine (H1.out _).mono ?_; rintro e w1 ⟨rfl, rfl⟩) | (go_at_call 52; refine (decimal_007 _).mono ?_; rintro e w1 ⟨rfl, rfl⟩))
  have d4 := (b0.set_ 0 (.bool false)).set_ 1 (.slice none 0 0)
  have r0 := (d4.cell 0).trans (b := some (Value.bool false)) rfl
  have r1 := (d4.cell 1).trans (b := some (Value.slice none 0 0)) rfl
  exact bodyPost_ret (v := .tuple #[.agg #[.bool false, .slice none 0 0], .int .i64 10]) (by simp [results, Try.f23, go_sem]) rfl ⟨_, rfl, whz_zero _, (by repeat (first | exact Below.refl _ _ | assumption | refine Below.alloc ?_ (by first | (simp; done) | (simp; omega) | omega) _ | refine Below.setCell ?_ (by first | (simp; done) | (simp; omega) | omega) _ | refine Below.drew ?_))⟩
end Go.Proofs.Ytgnidjhfiagfnaa
