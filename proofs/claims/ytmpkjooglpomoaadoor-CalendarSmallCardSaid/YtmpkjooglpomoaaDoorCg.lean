/- The exported functions of package calendar that are about numbers, continued. -/
import Derived.Test.YtmpkjooglpomoaaDoorCf
namespace Go.Proofs.YtmpkjooglpomoaaDoor
open Go.RowKit Go.Lib

set_option maxRecDepth 100000 in
set_option maxHeartbeats 2000000 in
theorem add_any (d n : Int) {w : World} (hL : Laid w) :
    Calls Tryd.prog 32 #[.int .i64 d, .int .i64 n] w fun e w' => e = .returned (.tuple #[.int .i64 (addV d n), .int .i64 (addE d n)]) ∧ Below w.heap.size w w' := by
  have HL := hid hL
  by_cases h : IsD d
  · have HD := hid h
    by_cases hm : IsM (mon d + n)
    · have HM := hid hm
      obtain ⟨D, hD⟩ : ∃ D, toD d (mon d + n) = D := ⟨_, rfl⟩
      by_cases hx : D < 65536
      · have ⟨e1, e2⟩ := addV_ok h hm (by rw [hD]; exact hx)
        rw [e1, e2, hD]
        have HT := hid (later_yes hL h hm hD (decide_eq_true hx))
        clear h hm hD hx e1 e2 hL HM
        go_enter Tryd.func32, Tryd.ntmps32
        go_wp2_with (first
          | (go_at_call 38; refine (isd_yes _ HD.out).mono ?_; rintro e w' ⟨rfl, rfl⟩)
          | (go_at_call 51; refine HT.out.mono ?_; rintro e w1 ⟨rfl, hb⟩)
          | fail)
        go_ret2
        exact ⟨rfl, hb⟩
      · have ⟨e1, e2⟩ := addV_no h (n := n) (fun g => hx (by rw [← hD]; exact g.2))
        rw [e1, e2]
        have HT := hid (later_yes hL h hm hD (decide_eq_false hx))
        clear h hm hD hx e1 e2 hL HM
        go_enter Tryd.func32, Tryd.ntmps32
        go_wp2_with (first
          | (go_at_call 38; refine (isd_yes _ HD.out).mono ?_; rintro e w' ⟨rfl, rfl⟩)
          | (go_at_call 51; refine HT.out.mono ?_; rintro e w1 ⟨rfl, hb⟩)
          | fail)
        go_ret2
        exact ⟨rfl, hb⟩
    · have ⟨e1, e2⟩ := addV_no h (n := n) (fun g => hm g.1)
      rw [e1, e2]
      have HT := hid (later_no hL h hm)
      clear h hm e1 e2 hL
      go_enter Tryd.func32, Tryd.ntmps32
      go_wp2_with (first
        | (go_at_call 38; refine (isd_yes _ HD.out).mono ?_; rintro e w' ⟨rfl, rfl⟩)
        | (go_at_call 51; refine HT.out.mono ?_; rintro e w1 ⟨rfl, hb⟩)
        | fail)
      go_ret2
      exact ⟨rfl, hb⟩
  · have ⟨e1, e2⟩ := addV_arg (n := n) h
    rw [e1, e2]
    have HD := hid h
    clear h e1 e2 hL
    go_enter Tryd.func32, Tryd.ntmps32
    go_wp2_with (go_at_call 38; refine (isd_no _ HD.out).mono ?_; rintro e w' ⟨rfl, rfl⟩)
    go_ret2
    exact ⟨rfl, Below.refl _ _⟩

theorem bet_in {a b : Int} (ha : IsD a) (hb : IsD b) : betV a b = (if b < a then - whole b a else whole a b) ∧ errDD a b = 0 := by
  have h : IsD a ∧ IsD b := ⟨ha, hb⟩
  unfold betV errDD; rw [if_pos h, if_pos h]; exact ⟨rfl, rfl⟩
theorem bet_out {a b : Int} (h : ¬ (IsD a ∧ IsD b)) : betV a b = 0 ∧ errDD a b = 2 := by
  unfold betV errDD; rw [if_neg h, if_neg h]; exact ⟨rfl, rfl⟩
theorem age_in {a b : Int} (ha : IsD a) (hb : IsD b) (h : a ≤ b) : ageV a b = whole a b / 12 ∧ ageE a b = 0 := by
  have h : IsD a ∧ IsD b ∧ a ≤ b := ⟨ha, hb, h⟩
  unfold ageV ageE; rw [if_pos h, if_pos h]; exact ⟨rfl, rfl⟩
theorem age_out {a b : Int} (h : ¬ (IsD a ∧ IsD b ∧ a ≤ b)) : ageV a b = 0 ∧ ageE a b = 2 := by
  unfold ageV ageE; rw [if_neg h, if_neg h]; exact ⟨rfl, rfl⟩

set_option maxRecDepth 100000 in
set_option maxHeartbeats 2000000 in
theorem between_any (a b : Int) {w : World} (hL : Laid w) :
    Calls Tryd.prog 33 #[.int .i64 a, .int .i64 b] w fun e w' => e = .returned (.tuple #[.int .i64 (betV a b), .int .i64 (errDD a b)]) ∧ Below w.heap.size w w' := by
  by_cases ha : IsD a
  · have HA := hid ha
    by_cases hb : IsD b
    · have HB := hid hb
      have ⟨e1, e2⟩ := bet_in ha hb
      rw [e1, e2]
      by_cases hc : b < a
      · have HW := hid (whole_any hL hb ha (by omega))
        have b0 := whole_nn hb.1 (show b ≤ a by omega)
        have b1 := whole_up hb.1 (show b ≤ a by omega) ha.2
        rw [if_pos hc]
        generalize whole b a = W at *
        clear e1 e2 ha hb hL
        go_enter Tryd.func33, Tryd.ntmps33
        go_wp2_with (first
          | (go_at_call 38; (with_reducible refine (isd_yes _ HA.out).mono ?_); rintro e w' ⟨rfl, rfl⟩)
          | (go_at_call 38; (with_reducible refine (isd_yes _ HB.out).mono ?_); rintro e w' ⟨rfl, rfl⟩)
          | (go_at_call 52; refine HW.out.mono ?_; rintro e w1 ⟨rfl, hb⟩)
          | fail)
        go_ret2
        exact ⟨rfl, hb⟩
      · have HW := hid (whole_any hL ha hb (by omega))
        rw [if_neg hc]
        generalize whole a b = W at *
        clear e1 e2 ha hb hL
        go_enter Tryd.func33, Tryd.ntmps33
        go_wp2_with (first
          | (go_at_call 38; (with_reducible refine (isd_yes _ HA.out).mono ?_); rintro e w' ⟨rfl, rfl⟩)
          | (go_at_call 38; (with_reducible refine (isd_yes _ HB.out).mono ?_); rintro e w' ⟨rfl, rfl⟩)
          | (go_at_call 52; refine HW.out.mono ?_; rintro e w1 ⟨rfl, hb⟩)
          | fail)
        go_ret2
        exact ⟨rfl, hb⟩
    · have ⟨e1, e2⟩ := bet_out (a := a) (b := b) (fun g => hb g.2)
      rw [e1, e2]
      have HB := hid hb
      clear e1 e2 ha hb hL
      go_enter Tryd.func33, Tryd.ntmps33
      go_wp2_with (first
        | (go_at_call 38; (with_reducible refine (isd_yes _ HA.out).mono ?_); rintro e w' ⟨rfl, rfl⟩)
        | (go_at_call 38; (with_reducible refine (isd_no _ HB.out).mono ?_); rintro e w' ⟨rfl, rfl⟩)
        | fail)
      go_ret2
      exact ⟨rfl, Below.refl _ _⟩
  · have ⟨e1, e2⟩ := bet_out (a := a) (b := b) (fun g => ha g.1)
    rw [e1, e2]
    have HA := hid ha
    clear e1 e2 ha hL
    go_enter Tryd.func33, Tryd.ntmps33
    go_wp2_with (first
      | (go_at_call 38; (with_reducible refine (isd_no _ HA.out).mono ?_); rintro e w' ⟨rfl, rfl⟩)
      | fail)
    go_ret2
    exact ⟨rfl, Below.refl _ _⟩

set_option maxRecDepth 100000 in
set_option maxHeartbeats 2000000 in
theorem age_any (a b : Int) {w : World} (hL : Laid w) :
    Calls Tryd.prog 34 #[.int .i64 a, .int .i64 b] w fun e w' => e = .returned (.tuple #[.int .i64 (ageV a b), .int .i64 (ageE a b)]) ∧ Below w.heap.size w w' := by
  by_cases ha : IsD a
  · have HA := hid ha
    by_cases hb : IsD b
    · have HB := hid hb
      by_cases hc : a ≤ b
      · have ⟨e1, e2⟩ := age_in ha hb hc
        rw [e1, e2]
        have HW := hid (whole_any hL ha hb (by omega))
        have b0 := whole_nn ha.1 hc
        have b1 := whole_up ha.1 hc hb.2
        generalize whole a b = W at *
        clear e1 e2 ha hb hL
        go_enter Tryd.func34, Tryd.ntmps34
        go_wp2_with (first
          | (go_at_call 38; (with_reducible refine (isd_yes _ HA.out).mono ?_); rintro e w' ⟨rfl, rfl⟩)
          | (go_at_call 38; (with_reducible refine (isd_yes _ HB.out).mono ?_); rintro e w' ⟨rfl, rfl⟩)
          | (go_at_call 52; refine HW.out.mono ?_; rintro e w1 ⟨rfl, hb⟩)
          | fail)
        go_ret2
        exact ⟨rfl, hb⟩
      · have ⟨e1, e2⟩ := age_out (a := a) (b := b) (fun g => hc g.2.2)
        rw [e1, e2]
        clear e1 e2 ha hb hL
        go_enter Tryd.func34, Tryd.ntmps34
        go_wp2_with (first
          | (go_at_call 38; (with_reducible refine (isd_yes _ HA.out).mono ?_); rintro e w' ⟨rfl, rfl⟩)
          | (go_at_call 38; (with_reducible refine (isd_yes _ HB.out).mono ?_); rintro e w' ⟨rfl, rfl⟩)
          | fail)
        go_ret2
        exact ⟨rfl, Below.refl _ _⟩
    · have ⟨e1, e2⟩ := age_out (a := a) (b := b) (fun g => hb g.2.1)
      rw [e1, e2]
      have HB := hid hb
      clear e1 e2 ha hb hL
      go_enter Tryd.func34, Tryd.ntmps34
      go_wp2_with (first
        | (go_at_call 38; (with_reducible refine (isd_yes _ HA.out).mono ?_); rintro e w' ⟨rfl, rfl⟩)
        | (go_at_call 38; (with_reducible refine (isd_no _ HB.out).mono ?_); rintro e w' ⟨rfl, rfl⟩)
        | fail)
      go_ret2
      exact ⟨rfl, Below.refl _ _⟩
  · have ⟨e1, e2⟩ := age_out (a := a) (b := b) (fun g => ha g.1)
    rw [e1, e2]
    have HA := hid ha
    clear e1 e2 ha hL
    go_enter Tryd.func34, Tryd.ntmps34
    go_wp2_with (first
      | (go_at_call 38; (with_reducible refine (isd_no _ HA.out).mono ?_); rintro e w' ⟨rfl, rfl⟩)
      | fail)
    go_ret2
    exact ⟨rfl, Below.refl _ _⟩

set_option maxRecDepth 100000 in
set_option maxHeartbeats 2000000 in
theorem month_any (d : Int) {w : World} (hL : Laid w) :
    Calls Tryd.prog 30 #[.int .i64 d] w fun e w' => e = .returned (.tuple #[.int .i64 (monV d), .int .i64 (errD d)]) ∧ Below w.heap.size w w' := by
  by_cases h : IsD d
  · have ⟨_, _, _, e4, e5, _⟩ := ymd_in h
    rw [e4, e5]
    have HD := hid h
    have HC := hid (find_any hL h)
    clear e4 e5 h hL
    go_enter Tryd.func30, Tryd.ntmps30
    go_wp2_with (first
      | (go_at_call 38; refine (isd_yes _ HD.out).mono ?_; rintro e w' ⟨rfl, rfl⟩)
      | (go_at_call 48; refine HC.out.mono ?_; rintro e w1 ⟨rfl, hb⟩)
      | fail)
    go_ret2
    exact ⟨rfl, hb⟩
  · have ⟨_, _, _, e4, e5, _⟩ := ymd_out h
    rw [e4, e5]
    have HD := hid h
    clear e4 e5 h hL
    go_enter Tryd.func30, Tryd.ntmps30
    go_wp2_with (go_at_call 38; refine (isd_no _ HD.out).mono ?_; rintro e w' ⟨rfl, rfl⟩)
    go_ret2
    exact ⟨rfl, Below.refl _ _⟩

set_option maxRecDepth 100000 in
set_option maxHeartbeats 2000000 in
theorem weekday_any (d : Int) (w : World) :
    Calls Tryd.prog 29 #[.int .i64 d] w fun e w' => e = .returned (.tuple #[.int .i64 (wkV d), .int .i64 (errD d)]) ∧ Below w.heap.size w w' := by
  by_cases h : IsD d
  · have ⟨_, _, _, e4, _, e5⟩ := ymd_in h
    rw [e4, e5]
    have HD := hid h
    obtain ⟨h0, h1⟩ := h
    clear e4 e5
    go_enter Tryd.func29, Tryd.ntmps29
    go_wp2_with (go_at_call 38; refine (isd_yes _ HD.out).mono ?_; rintro e w' ⟨rfl, rfl⟩)
    go_ret2
    exact ⟨rfl, Below.refl _ _⟩
  · have ⟨_, _, _, e4, _, e5⟩ := ymd_out h
    rw [e4, e5]
    have HD := hid h
    clear e4 e5 h
    go_enter Tryd.func29, Tryd.ntmps29
    go_wp2_with (go_at_call 38; refine (isd_no _ HD.out).mono ?_; rintro e w' ⟨rfl, rfl⟩)
    go_ret2
    exact ⟨rfl, Below.refl _ _⟩

set_option maxRecDepth 100000 in
set_option maxHeartbeats 2000000 in
theorem first_any (k : Int) {w : World} (hL : Laid w) :
    Calls Tryd.prog 31 #[.int .i64 k] w fun e w' => e = .returned (.tuple #[.int .i64 (fstV k), .int .i64 (fstE k)]) ∧ Below w.heap.size w w' := by
  by_cases h : IsM k
  · have ⟨e4, e5⟩ := fst_in h
    rw [e4, e5]
    have HD := hid h
    have HC := hid (start_any k hL h.1 (by have := h.2; omega))
    clear e4 e5 h hL
    go_enter Tryd.func31, Tryd.ntmps31
    go_wp2_with (first
      | (go_at_call 50; refine (ism_yes _ HD.out).mono ?_; rintro e w' ⟨rfl, rfl⟩)
      | (go_at_call 36; refine HC.out.mono ?_; rintro e w' ⟨rfl, rfl⟩)
      | fail)
    go_ret2
    exact ⟨rfl, Below.refl _ _⟩
  · have ⟨e4, e5⟩ := fst_out h
    rw [e4, e5]
    have HD := hid h
    clear e4 e5 h hL
    go_enter Tryd.func31, Tryd.ntmps31
    go_wp2_with (go_at_call 50; refine (ism_no _ HD.out).mono ?_; rintro e w' ⟨rfl, rfl⟩)
    go_ret2
    exact ⟨rfl, Below.refl _ _⟩
end Go.Proofs.YtmpkjooglpomoaaDoor
