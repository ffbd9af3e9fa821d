/- Contracts of the calendar's small functions. -/
import Derived.Test.YtmpkjooglpomoaaDoorProg
import Derived.WalkKit
import Derived.WalkSpells
import Derived.WalkLawsBesides
import Derived.Lib.Hide
import Derived.IntWalk
import Derived.Test.YtmpkjooglpomoaaDoorCal3
namespace Go.Proofs.YtmpkjooglpomoaaDoor
open Go.RowKit Go.Lib

/-- The package's two tables lie in the world w. -/
structure Laid (w : World) : Prop where
  size : 2 ≤ w.heap.size
  len : w.cell? ⟨0, 0, none⟩ = some (.int .i64 31) ∧ w.cell? ⟨0, 1, none⟩ = some (.int .i64 28) ∧ w.cell? ⟨0, 2, none⟩ = some (.int .i64 31) ∧ w.cell? ⟨0, 3, none⟩ = some (.int .i64 30) ∧
    w.cell? ⟨0, 4, none⟩ = some (.int .i64 31) ∧ w.cell? ⟨0, 5, none⟩ = some (.int .i64 30) ∧ w.cell? ⟨0, 6, none⟩ = some (.int .i64 31) ∧ w.cell? ⟨0, 7, none⟩ = some (.int .i64 31) ∧
    w.cell? ⟨0, 8, none⟩ = some (.int .i64 30) ∧ w.cell? ⟨0, 9, none⟩ = some (.int .i64 31) ∧ w.cell? ⟨0, 10, none⟩ = some (.int .i64 30) ∧ w.cell? ⟨0, 11, none⟩ = some (.int .i64 31)
  fld : w.cell? ⟨1, 0, none⟩ = some (.int .i64 0) ∧ w.cell? ⟨1, 1, none⟩ = some (.int .i64 4) ∧ w.cell? ⟨1, 2, none⟩ = some (.int .i64 5) ∧ w.cell? ⟨1, 3, none⟩ = some (.int .i64 7) ∧
    w.cell? ⟨1, 4, none⟩ = some (.int .i64 8) ∧ w.cell? ⟨1, 5, none⟩ = some (.int .i64 10)
theorem Laid.below {w w' : World} (h : Laid w) (hb : Below w.heap.size w w') : Laid w' := by
  have e : ∀ b o, b < 2 → w'.cell? ⟨b, o, none⟩ = w.cell? ⟨b, o, none⟩ := fun b o hlt => hb.cell (p := ⟨b, o, none⟩) (Nat.lt_of_lt_of_le hlt h.size)
  refine ⟨Nat.le_trans h.size hb.size, ?_, ?_⟩
  · have := h.len; simpa only [e 0 _ (by omega)] using this
  · have := h.fld; simpa only [e 1 _ (by omega)] using this

theorem Laid.drewN {w : World} (h : Laid w) (n : Nat) : Laid (w.drewN n) := by
  refine ⟨?_, ?_, ?_⟩
  · simpa using h.size
  · have := h.len; simpa using this
  · have := h.fld; simpa using this
theorem ret_int {k : IntKind} {a b : Int} (h : a = b) : Ending.returned (.int k a) = .returned (.int k b) := by rw [h]
theorem ret_bool {a b : Bool} (h : a = b) : Ending.returned (.bool a) = .returned (.bool b) := by rw [h]

theorem tmod_z (y k : Int) : y.tmod k = 0 ↔ y % k = 0 := by rw [← Int.dvd_iff_tmod_eq_zero, ← Int.dvd_iff_emod_eq_zero]
theorem leap_of {y : Int} (h4 : y.tmod 4 = 0) (h : y.tmod 100 ≠ 0 ∨ y.tmod 400 = 0) : leapB y = true :=
  decide_eq_true ⟨(tmod_z y 4).1 h4, h.imp (fun h g => h ((tmod_z y 100).2 g)) (tmod_z y 400).1⟩
theorem leap_not4 {y : Int} (h4 : y.tmod 4 ≠ 0) : leapB y = false := decide_eq_false fun h => h4 ((tmod_z y 4).2 h.1)
theorem leap_not {y : Int} (h1 : y.tmod 100 = 0) (h : y.tmod 400 ≠ 0) : leapB y = false := decide_eq_false fun g => g.2.elim (fun a => a ((tmod_z y 100).1 h1)) fun a => h ((tmod_z y 400).2 a)

set_option maxRecDepth 100000 in
set_option maxHeartbeats 400000 in
theorem leap_any (y : Int) (w : World) : Calls Tryd.prog 17 #[.int .i64 y] w fun e w' => e = .returned (.bool (leapB y)) ∧ w' = w := by
  by_cases h4 : y.tmod 4 = 0
  · by_cases h100 : y.tmod 100 = 0
    · by_cases h400 : y.tmod 400 = 0
      · have H := leap_of h4 (Or.inr h400)
        generalize leapB y = b at *
        subst H
        go_enter Tryd.func17, Tryd.ntmps17
        go_wp2
        go_ret
        exact ⟨rfl, rfl⟩
      · have H := leap_not h100 h400
        generalize leapB y = b at *
        subst H
        go_enter Tryd.func17, Tryd.ntmps17
        go_wp2
        go_ret
        exact ⟨by simp [h400], rfl⟩
    · have H := leap_of h4 (Or.inl h100)
      generalize leapB y = b at *
      subst H
      go_enter Tryd.func17, Tryd.ntmps17
      go_wp2
      go_ret
      exact ⟨rfl, rfl⟩
  · have H := leap_not4 h4
    generalize leapB y = b at *
    subst H
    go_enter Tryd.func17, Tryd.ntmps17
    go_wp2
    go_ret
    exact ⟨rfl, rfl⟩

set_option maxRecDepth 100000 in
set_option maxHeartbeats 400000 in
theorem rleap_any (y : Int) (w : World) : Calls Tryd.prog 18 #[.int .i64 y] w fun e w' => e = .returned (.bool (leapB y)) ∧ w' = w := by
  by_cases h400 : y.tmod 400 = 0
  · have H := leap_of ((tmod_z y 4).2 (by have := (tmod_z y 400).1 h400; omega)) (Or.inr h400)
    generalize leapB y = b at *
    subst H
    go_enter Tryd.func18, Tryd.ntmps18
    go_wp2
    go_ret
    exact ⟨rfl, rfl⟩
  · by_cases h4 : y.tmod 4 = 0
    · by_cases h100 : y.tmod 100 = 0
      · have H := leap_not h100 h400
        generalize leapB y = b at *
        subst H
        go_enter Tryd.func18, Tryd.ntmps18
        go_wp2
        go_ret
        exact ⟨rfl, rfl⟩
      · have H := leap_of h4 (Or.inl h100)
        generalize leapB y = b at *
        subst H
        go_enter Tryd.func18, Tryd.ntmps18
        go_wp2
        go_ret
        exact ⟨by simp [h100], rfl⟩
    · have H := leap_not4 h4
      generalize leapB y = b at *
      subst H
      go_enter Tryd.func18, Tryd.ntmps18
      go_wp2
      go_ret
      exact ⟨rfl, rfl⟩

theorem lenM_2 (y : Int) : lenM y 2 = 28 + leapI y := rfl
theorem lenM_at {y m : Int} (_h1 : 1 ≤ m) (_h2 : m ≤ 12) (h : m ≠ 2) : lenM y m = lenM 1900 m := by unfold lenM; rw [if_neg h, if_neg h]
set_option maxRecDepth 100000 in
set_option maxHeartbeats 400000 in
theorem len_any (y m : Int) {w : World} (hL : Laid w) : Calls Tryd.prog 19 #[.int .i64 y, .int .i64 m] w fun e w' => e = .returned (.int .i64 (lenM y m)) ∧ w' = w := by
  by_cases h1 : m < 1
  · rw [lenM_out y m (Or.inl h1)]
    go_enter Tryd.func19, Tryd.ntmps19
    go_wp2
    go_ret
    exact ⟨rfl, rfl⟩
  · by_cases h2 : 12 < m
    · rw [lenM_out y m (Or.inr h2)]
      go_enter Tryd.func19, Tryd.ntmps19
      go_wp2
      go_ret
      exact ⟨rfl, rfl⟩
    · obtain ⟨c0, c1, c2, c3, c4, c5, c6, c7, c8, c9, c10, c11⟩ := hL.len
      clear hL
      rcases (by omega : m = 2 ∨ m = 1 ∨ m = 3 ∨ m = 4 ∨ m = 5 ∨ m = 6 ∨ m = 7 ∨ m = 8 ∨ m = 9 ∨ m = 10 ∨ m = 11 ∨ m = 12) with h | h
      · subst h
        rw [lenM_2]
        cases hb : leapB y
        · have e : leapI y = 0 := by unfold leapI; rw [if_neg (by simp [hb])]
          rw [e]
          have HB := hid hb
          clear hb h1 h2 e
          go_enter Tryd.func19, Tryd.ntmps19
          go_wp2_with (go_at_call 17; refine (leap_any _ _).mono ?_; rintro e w' ⟨rfl, rfl⟩; rw [HB.out])
          go_ret
          exact ⟨rfl, rfl⟩
        · have e : leapI y = 1 := by unfold leapI; rw [if_pos hb]
          rw [e]
          have HB := hid hb
          clear hb h1 h2 e
          go_enter Tryd.func19, Tryd.ntmps19
          go_wp2_with (go_at_call 17; refine (leap_any _ _).mono ?_; rintro e w' ⟨rfl, rfl⟩; rw [HB.out])
          go_ret
          exact ⟨rfl, rfl⟩
      · rcases h with h | h | h | h | h | h | h | h | h | h | h <;> subst h <;> clear h1 h2 <;> rw [lenM_at (by omega) (by omega) (by omega)] <;>
        (go_enter Tryd.func19, Tryd.ntmps19
         go_wp2
         go_ret
         exact ⟨ret_int (by decide), rfl⟩)
end Go.Proofs.YtmpkjooglpomoaaDoor
