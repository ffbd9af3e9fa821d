/- Numbers that are no dates: CalendarWrong's function returns true. -/
import Derived.Test.YtmpkjooglpomoaaDoorCm
namespace Go.Proofs.YtmpkjooglpomoaaDoor
open Go.RowKit Go.Lib

theorem emod_of {a n : Int} (hn : 0 < n) : (a.tmod n < 0 → a % n = a.tmod n + n) ∧ (¬ a.tmod n < 0 → a % n = a.tmod n) ∧ -n < a.tmod n ∧ a.tmod n < n := by
  have h1 := Int.tmod_lt_of_pos a hn
  have h2 := Int.tmod_lt_of_pos (-a) hn
  rw [Int.neg_tmod] at h2
  have h3 := Int.emod_nonneg a (show n ≠ 0 by omega)
  have h4 := Int.emod_lt_of_pos a hn
  have e1 := Int.mul_tdiv_add_tmod a n
  have e2 := Int.mul_ediv_add_emod a n
  have key : ∀ q r q' r' : Int, n * q + r = n * q' + r' → 0 ≤ r' → r' < n → -n < r → r < n → (r < 0 → r' = r + n) ∧ (¬ r < 0 → r' = r) := by
    intro q r q' r' e a1 a2 a3 a4
    have e3 : n * (q - q') = r' - r := by rw [Int.mul_sub]; omega
    have b1 : q - q' < 2 := by
      by_cases g : q - q' < 2
      · exact g
      · have : n * 2 ≤ n * (q - q') := Int.mul_le_mul_of_nonneg_left (by omega) (by omega)
        omega
    have b2 : -1 < q - q' := by
      by_cases g : -1 < q - q'
      · exact g
      · have : n * (q - q') ≤ n * (-1) := Int.mul_le_mul_of_nonneg_left (by omega) (by omega)
        omega
    rcases (by omega : q - q' = 0 ∨ q - q' = 1) with g | g
    · rw [g] at e3; constructor <;> intro h <;> omega
    · rw [g] at e3; constructor <;> intro h <;> omega
  have := key _ _ _ _ (e1.trans e2.symm) h3 h4 (by omega) h1
  exact ⟨this.1, this.2, by omega, h1⟩

set_option maxRecDepth 100000 in
set_option maxHeartbeats 2000000 in
theorem pick_any (a n : Int) (w : World) (hn : 0 < n) (hn2 : n ≤ 1000000) : Calls Tryd.prog 27 #[.int .i64 a, .int .i64 n] w fun e w' => e = .returned (.int .i64 (a % n)) ∧ w' = w := by
  have ⟨h1, h2, h3, h4⟩ := emod_of (a := a) hn
  have n0 : ¬ n < 1 := by omega
  have hnz : n ≠ 0 := by omega
  by_cases hc : a.tmod n < 0
  · rw [h1 hc]
    clear h1 h2
    go_enter Tryd.func27, Tryd.ntmps27
    go_wp2
    go_ret
    exact ⟨rfl, rfl⟩
  · rw [h2 hc]
    clear h1 h2
    go_enter Tryd.func27, Tryd.ntmps27
    go_wp2
    go_ret
    exact ⟨rfl, rfl⟩

theorem pick_bd (a : Int) {n : Int} (hn : 0 < n) : 0 ≤ a % n ∧ a % n < n := ⟨Int.emod_nonneg a (by omega), Int.emod_lt_of_pos a hn⟩

section
variable {w : World} (hL : Laid w) {d : Int} (hd : ¬ IsD d)
include hL hd
theorem wr_add (n : Int) : Calls Tryd.prog 32 #[.int .i64 d, .int .i64 n] w fun e w' => e = .returned (.tuple #[.int .i64 0, .int .i64 2]) ∧ Below w.heap.size w w' := by
  have := add_any d n hL; rwa [(addV_arg hd).1, (addV_arg hd).2] at this
theorem wr_bet (b : Int) : Calls Tryd.prog 33 #[.int .i64 d, .int .i64 b] w fun e w' => e = .returned (.tuple #[.int .i64 0, .int .i64 2]) ∧ Below w.heap.size w w' := by
  have := between_any d b hL
  have h := bet_out (a := d) (b := b) (fun g => hd g.1)
  rwa [h.1, h.2] at this
theorem wr_bet2 (b : Int) : Calls Tryd.prog 33 #[.int .i64 b, .int .i64 d] w fun e w' => e = .returned (.tuple #[.int .i64 0, .int .i64 2]) ∧ Below w.heap.size w w' := by
  have := between_any b d hL
  have h := bet_out (a := b) (b := d) (fun g => hd g.2)
  rwa [h.1, h.2] at this
theorem wr_age (b : Int) : Calls Tryd.prog 34 #[.int .i64 d, .int .i64 b] w fun e w' => e = .returned (.tuple #[.int .i64 0, .int .i64 2]) ∧ Below w.heap.size w w' := by
  have := age_any d b hL
  have h := age_out (a := d) (b := b) (fun g => hd g.1)
  rwa [h.1, h.2] at this
theorem wr_age2 (b : Int) : Calls Tryd.prog 34 #[.int .i64 b, .int .i64 d] w fun e w' => e = .returned (.tuple #[.int .i64 0, .int .i64 2]) ∧ Below w.heap.size w w' := by
  have := age_any b d hL
  have h := age_out (a := b) (b := d) (fun g => hd g.2.1)
  rwa [h.1, h.2] at this
theorem wr_month : Calls Tryd.prog 30 #[.int .i64 d] w fun e w' => e = .returned (.tuple #[.int .i64 0, .int .i64 2]) ∧ Below w.heap.size w w' := by
  have := month_any d hL
  have ⟨_, _, _, e4, e5, _⟩ := ymd_out hd
  rwa [e4, e5] at this
theorem wr_day2 : Calls Tryd.prog 15 #[.int .i64 d, .int .i64 1, .int .i64 1] w fun e w' => e = .returned (.tuple #[.int .i64 0, .int .i64 2]) ∧ Below w.heap.size w w' := by
  have := day_any d 1 1 hL (by omega)
  have h := day_out (y := d) (m := 1) (d := 1) (fun g => hd ⟨by have := g.1; omega, by have := g.2.1; omega⟩)
  rwa [h.1, h.2] at this
theorem wr_text : Calls Tryd.prog 35 #[.int .i64 d] w fun e w' => e = .returned (.string ⟨#[]⟩) ∧ Below w.heap.size w w' := by
  have := text_any d hL; rwa [text_out hd] at this
end
section
variable {w : World} (hL : Laid w) {m : Int} (hm : ¬ IsM m)
include hL hm
theorem wr_first : Calls Tryd.prog 31 #[.int .i64 m] w fun e w' => e = .returned (.tuple #[.int .i64 0, .int .i64 2]) ∧ Below w.heap.size w w' := by
  have := first_any m hL
  have h := fst_out hm
  rwa [h.1, h.2] at this
theorem wr_day : Calls Tryd.prog 15 #[.int .i64 2000, .int .i64 m, .int .i64 1] w fun e w' => e = .returned (.tuple #[.int .i64 0, .int .i64 2]) ∧ Below w.heap.size w w' := by
  have := day_any 2000 m 1 hL (by omega)
  have h := day_out (y := 2000) (m := m) (d := 1) (fun g => hm (by have h := lenM_pos g.2.2.1 g.2.2.2.1; exact ⟨by omega, by omega⟩))
  rwa [h.1, h.2] at this
theorem wr_len : Calls Tryd.prog 19 #[.int .i64 2000, .int .i64 m] w fun e w' => e = .returned (.int .i64 0) ∧ w' = w := by
  have := len_any 2000 m hL
  rwa [lenM_out 2000 m (by by_cases g : 0 ≤ m; exact Or.inr (by by_cases g2 : m < 2154; exact absurd ⟨g, g2⟩ hm; omega); exact Or.inl (by omega))] at this
end

theorem notD_of {d : Int} (h : IsD d) : ¬ IsD (d - 65536) := fun g => by have := g.1; have := h.2; omega
theorem notM_of {d : Int} (h : IsM d) : ¬ IsM (d + 2154) := fun g => by have := g.2; have := h.1; omega

set_option maxRecDepth 100000 in
set_option maxHeartbeats 20000000 in
theorem wrong_law (d m a : Int) {w : World} (hL : Laid w) :
    Calls Tryd.prog 14 #[.int .i64 d, .int .i64 m, .int .i64 a] w fun e w' => e = .returned (.bool true) ∧ Below w.heap.size w w' := by
  have HL := hid hL
  clear hL
  by_cases hd : IsD d
  · have HD := hid (notD_of hd)
    obtain ⟨d0, d1⟩ := hd
    have g5 : d - 65536 < 1900 := by omega
    by_cases hm : IsM m
    · have HM := hid (notM_of hm)
      obtain ⟨m0, m1⟩ := hm
      have g1 : ¬ m + 2154 < 1 := by omega
      have g2 : 12 < m + 2154 := by omega
      go_enter Tryd.func14, Tryd.ntmps14
      go_wp2_with fail
      refine (awake_any HL.out).mono ?_
      rintro e u1 ⟨rfl, h1⟩
      go_wp2_with fail
      refine (pick_any _ _ _ (by omega) (by omega)).mono ?_
      rintro e u ⟨rfl, rfl⟩
      go_wp2_with fail
      refine (wr_add (HL.out.below h1) HD.out _).mono ?_
      rintro e u ⟨rfl, hx⟩; replace h1 := h1.trans (hx.mono h1.size); clear hx
      go_wp2_with fail
      refine (wr_bet (HL.out.below h1) HD.out _).mono ?_
      rintro e u ⟨rfl, hx⟩; replace h1 := h1.trans (hx.mono h1.size); clear hx
      go_wp2_with fail
      refine (wr_bet2 (HL.out.below h1) HD.out _).mono ?_
      rintro e u ⟨rfl, hx⟩; replace h1 := h1.trans (hx.mono h1.size); clear hx
      go_wp2_with fail
      refine (wr_age (HL.out.below h1) HD.out _).mono ?_
      rintro e u ⟨rfl, hx⟩; replace h1 := h1.trans (hx.mono h1.size); clear hx
      go_wp2_with fail
      refine (wr_age2 (HL.out.below h1) HD.out _).mono ?_
      rintro e u ⟨rfl, hx⟩; replace h1 := h1.trans (hx.mono h1.size); clear hx
      go_wp2_with fail
      refine (wr_month (HL.out.below h1) HD.out).mono ?_
      rintro e u ⟨rfl, hx⟩; replace h1 := h1.trans (hx.mono h1.size); clear hx
      go_wp2_with fail
      refine (wr_first (HL.out.below h1) HM.out).mono ?_
      rintro e u ⟨rfl, hx⟩; replace h1 := h1.trans (hx.mono h1.size); clear hx
      go_wp2_with fail
      refine (wr_day (HL.out.below h1) HM.out).mono ?_
      rintro e u ⟨rfl, hx⟩; replace h1 := h1.trans (hx.mono h1.size); clear hx
      go_wp2_with fail
      refine (wr_day2 (HL.out.below h1) HD.out).mono ?_
      rintro e u ⟨rfl, hx⟩; replace h1 := h1.trans (hx.mono h1.size); clear hx
      go_wp2_with fail
      refine (wr_len (HL.out.below h1) HM.out).mono ?_
      rintro e u ⟨rfl, rfl⟩
      go_wp2_with fail
      refine (wr_text (HL.out.below h1) HD.out).mono ?_
      rintro e u ⟨rfl, hx⟩; replace h1 := h1.trans (hx.mono h1.size); clear hx
      go_wp2_with fail
      go_ret
      exact ⟨rfl, h1⟩
    · have HM := hid hm
      by_cases m0 : 0 ≤ m
      · have m1 : ¬ m < 2154 := fun g => hm ⟨m0, g⟩
        have g2 : 12 < m := by omega
        clear hm
        go_enter Tryd.func14, Tryd.ntmps14
        go_wp2_with fail
        refine (awake_any HL.out).mono ?_
        rintro e u1 ⟨rfl, h1⟩
        go_wp2_with fail
        refine (pick_any _ _ _ (by omega) (by omega)).mono ?_
        rintro e u ⟨rfl, rfl⟩
        go_wp2_with fail
        refine (wr_add (HL.out.below h1) HD.out _).mono ?_
        rintro e u ⟨rfl, hx⟩; replace h1 := h1.trans (hx.mono h1.size); clear hx
        go_wp2_with fail
        refine (wr_bet (HL.out.below h1) HD.out _).mono ?_
        rintro e u ⟨rfl, hx⟩; replace h1 := h1.trans (hx.mono h1.size); clear hx
        go_wp2_with fail
        refine (wr_bet2 (HL.out.below h1) HD.out _).mono ?_
        rintro e u ⟨rfl, hx⟩; replace h1 := h1.trans (hx.mono h1.size); clear hx
        go_wp2_with fail
        refine (wr_age (HL.out.below h1) HD.out _).mono ?_
        rintro e u ⟨rfl, hx⟩; replace h1 := h1.trans (hx.mono h1.size); clear hx
        go_wp2_with fail
        refine (wr_age2 (HL.out.below h1) HD.out _).mono ?_
        rintro e u ⟨rfl, hx⟩; replace h1 := h1.trans (hx.mono h1.size); clear hx
        go_wp2_with fail
        refine (wr_month (HL.out.below h1) HD.out).mono ?_
        rintro e u ⟨rfl, hx⟩; replace h1 := h1.trans (hx.mono h1.size); clear hx
        go_wp2_with fail
        refine (wr_first (HL.out.below h1) HM.out).mono ?_
        rintro e u ⟨rfl, hx⟩; replace h1 := h1.trans (hx.mono h1.size); clear hx
        go_wp2_with fail
        refine (wr_day (HL.out.below h1) HM.out).mono ?_
        rintro e u ⟨rfl, hx⟩; replace h1 := h1.trans (hx.mono h1.size); clear hx
        go_wp2_with fail
        refine (wr_day2 (HL.out.below h1) HD.out).mono ?_
        rintro e u ⟨rfl, hx⟩; replace h1 := h1.trans (hx.mono h1.size); clear hx
        go_wp2_with fail
        refine (wr_len (HL.out.below h1) HM.out).mono ?_
        rintro e u ⟨rfl, rfl⟩
        go_wp2_with fail
        refine (wr_text (HL.out.below h1) HD.out).mono ?_
        rintro e u ⟨rfl, hx⟩; replace h1 := h1.trans (hx.mono h1.size); clear hx
        go_wp2_with fail
        go_ret
        exact ⟨rfl, h1⟩
      · clear hm
        go_enter Tryd.func14, Tryd.ntmps14
        go_wp2_with fail
        refine (awake_any HL.out).mono ?_
        rintro e u1 ⟨rfl, h1⟩
        go_wp2_with fail
        refine (pick_any _ _ _ (by omega) (by omega)).mono ?_
        rintro e u ⟨rfl, rfl⟩
        go_wp2_with fail
        refine (wr_add (HL.out.below h1) HD.out _).mono ?_
        rintro e u ⟨rfl, hx⟩; replace h1 := h1.trans (hx.mono h1.size); clear hx
        go_wp2_with fail
        refine (wr_bet (HL.out.below h1) HD.out _).mono ?_
        rintro e u ⟨rfl, hx⟩; replace h1 := h1.trans (hx.mono h1.size); clear hx
        go_wp2_with fail
        refine (wr_bet2 (HL.out.below h1) HD.out _).mono ?_
        rintro e u ⟨rfl, hx⟩; replace h1 := h1.trans (hx.mono h1.size); clear hx
        go_wp2_with fail
        refine (wr_age (HL.out.below h1) HD.out _).mono ?_
        rintro e u ⟨rfl, hx⟩; replace h1 := h1.trans (hx.mono h1.size); clear hx
        go_wp2_with fail
        refine (wr_age2 (HL.out.below h1) HD.out _).mono ?_
        rintro e u ⟨rfl, hx⟩; replace h1 := h1.trans (hx.mono h1.size); clear hx
        go_wp2_with fail
        refine (wr_month (HL.out.below h1) HD.out).mono ?_
        rintro e u ⟨rfl, hx⟩; replace h1 := h1.trans (hx.mono h1.size); clear hx
        go_wp2_with fail
        refine (wr_first (HL.out.below h1) HM.out).mono ?_
        rintro e u ⟨rfl, hx⟩; replace h1 := h1.trans (hx.mono h1.size); clear hx
        go_wp2_with fail
        refine (wr_day (HL.out.below h1) HM.out).mono ?_
        rintro e u ⟨rfl, hx⟩; replace h1 := h1.trans (hx.mono h1.size); clear hx
        go_wp2_with fail
        refine (wr_day2 (HL.out.below h1) HD.out).mono ?_
        rintro e u ⟨rfl, hx⟩; replace h1 := h1.trans (hx.mono h1.size); clear hx
        go_wp2_with fail
        refine (wr_len (HL.out.below h1) HM.out).mono ?_
        rintro e u ⟨rfl, rfl⟩
        go_wp2_with fail
        refine (wr_text (HL.out.below h1) HD.out).mono ?_
        rintro e u ⟨rfl, hx⟩; replace h1 := h1.trans (hx.mono h1.size); clear hx
        go_wp2_with fail
        go_ret
        exact ⟨rfl, h1⟩
  · have HD := hid hd
    by_cases d0 : 0 ≤ d
    · have d1 : ¬ d < 65536 := fun g => hd ⟨d0, g⟩
      have g5 : ¬ d < 1900 := by omega
      have g6 : 2079 < d := by omega
      clear hd
      by_cases hm : IsM m
      · have HM := hid (notM_of hm)
        obtain ⟨m0, m1⟩ := hm
        have g1 : ¬ m + 2154 < 1 := by omega
        have g2 : 12 < m + 2154 := by omega
        go_enter Tryd.func14, Tryd.ntmps14
        go_wp2_with fail
        refine (awake_any HL.out).mono ?_
        rintro e u1 ⟨rfl, h1⟩
        go_wp2_with fail
        refine (pick_any _ _ _ (by omega) (by omega)).mono ?_
        rintro e u ⟨rfl, rfl⟩
        go_wp2_with fail
        refine (wr_add (HL.out.below h1) HD.out _).mono ?_
        rintro e u ⟨rfl, hx⟩; replace h1 := h1.trans (hx.mono h1.size); clear hx
        go_wp2_with fail
        refine (wr_bet (HL.out.below h1) HD.out _).mono ?_
        rintro e u ⟨rfl, hx⟩; replace h1 := h1.trans (hx.mono h1.size); clear hx
        go_wp2_with fail
        refine (wr_bet2 (HL.out.below h1) HD.out _).mono ?_
        rintro e u ⟨rfl, hx⟩; replace h1 := h1.trans (hx.mono h1.size); clear hx
        go_wp2_with fail
        refine (wr_age (HL.out.below h1) HD.out _).mono ?_
        rintro e u ⟨rfl, hx⟩; replace h1 := h1.trans (hx.mono h1.size); clear hx
        go_wp2_with fail
        refine (wr_age2 (HL.out.below h1) HD.out _).mono ?_
        rintro e u ⟨rfl, hx⟩; replace h1 := h1.trans (hx.mono h1.size); clear hx
        go_wp2_with fail
        refine (wr_month (HL.out.below h1) HD.out).mono ?_
        rintro e u ⟨rfl, hx⟩; replace h1 := h1.trans (hx.mono h1.size); clear hx
        go_wp2_with fail
        refine (wr_first (HL.out.below h1) HM.out).mono ?_
        rintro e u ⟨rfl, hx⟩; replace h1 := h1.trans (hx.mono h1.size); clear hx
        go_wp2_with fail
        refine (wr_day (HL.out.below h1) HM.out).mono ?_
        rintro e u ⟨rfl, hx⟩; replace h1 := h1.trans (hx.mono h1.size); clear hx
        go_wp2_with fail
        refine (wr_day2 (HL.out.below h1) HD.out).mono ?_
        rintro e u ⟨rfl, hx⟩; replace h1 := h1.trans (hx.mono h1.size); clear hx
        go_wp2_with fail
        refine (wr_len (HL.out.below h1) HM.out).mono ?_
        rintro e u ⟨rfl, rfl⟩
        go_wp2_with fail
        refine (wr_text (HL.out.below h1) HD.out).mono ?_
        rintro e u ⟨rfl, hx⟩; replace h1 := h1.trans (hx.mono h1.size); clear hx
        go_wp2_with fail
        go_ret
        exact ⟨rfl, h1⟩
      · have HM := hid hm
        by_cases m0 : 0 ≤ m
        · have m1 : ¬ m < 2154 := fun g => hm ⟨m0, g⟩
          have g2 : 12 < m := by omega
          clear hm
          go_enter Tryd.func14, Tryd.ntmps14
          go_wp2_with fail
          refine (awake_any HL.out).mono ?_
          rintro e u1 ⟨rfl, h1⟩
          go_wp2_with fail
          refine (pick_any _ _ _ (by omega) (by omega)).mono ?_
          rintro e u ⟨rfl, rfl⟩
          go_wp2_with fail
          refine (wr_add (HL.out.below h1) HD.out _).mono ?_
          rintro e u ⟨rfl, hx⟩; replace h1 := h1.trans (hx.mono h1.size); clear hx
          go_wp2_with fail
          refine (wr_bet (HL.out.below h1) HD.out _).mono ?_
          rintro e u ⟨rfl, hx⟩; replace h1 := h1.trans (hx.mono h1.size); clear hx
          go_wp2_with fail
          refine (wr_bet2 (HL.out.below h1) HD.out _).mono ?_
          rintro e u ⟨rfl, hx⟩; replace h1 := h1.trans (hx.mono h1.size); clear hx
          go_wp2_with fail
          refine (wr_age (HL.out.below h1) HD.out _).mono ?_
          rintro e u ⟨rfl, hx⟩; replace h1 := h1.trans (hx.mono h1.size); clear hx
          go_wp2_with fail
          refine (wr_age2 (HL.out.below h1) HD.out _).mono ?_
          rintro e u ⟨rfl, hx⟩; replace h1 := h1.trans (hx.mono h1.size); clear hx
          go_wp2_with fail
          refine (wr_month (HL.out.below h1) HD.out).mono ?_
          rintro e u ⟨rfl, hx⟩; replace h1 := h1.trans (hx.mono h1.size); clear hx
          go_wp2_with fail
          refine (wr_first (HL.out.below h1) HM.out).mono ?_
          rintro e u ⟨rfl, hx⟩; replace h1 := h1.trans (hx.mono h1.size); clear hx
          go_wp2_with fail
          refine (wr_day (HL.out.below h1) HM.out).mono ?_
          rintro e u ⟨rfl, hx⟩; replace h1 := h1.trans (hx.mono h1.size); clear hx
          go_wp2_with fail
          refine (wr_day2 (HL.out.below h1) HD.out).mono ?_
          rintro e u ⟨rfl, hx⟩; replace h1 := h1.trans (hx.mono h1.size); clear hx
          go_wp2_with fail
          refine (wr_len (HL.out.below h1) HM.out).mono ?_
          rintro e u ⟨rfl, rfl⟩
          go_wp2_with fail
          refine (wr_text (HL.out.below h1) HD.out).mono ?_
          rintro e u ⟨rfl, hx⟩; replace h1 := h1.trans (hx.mono h1.size); clear hx
          go_wp2_with fail
          go_ret
          exact ⟨rfl, h1⟩
        · clear hm
          go_enter Tryd.func14, Tryd.ntmps14
          go_wp2_with fail
          refine (awake_any HL.out).mono ?_
          rintro e u1 ⟨rfl, h1⟩
          go_wp2_with fail
          refine (pick_any _ _ _ (by omega) (by omega)).mono ?_
          rintro e u ⟨rfl, rfl⟩
          go_wp2_with fail
          refine (wr_add (HL.out.below h1) HD.out _).mono ?_
          rintro e u ⟨rfl, hx⟩; replace h1 := h1.trans (hx.mono h1.size); clear hx
          go_wp2_with fail
          refine (wr_bet (HL.out.below h1) HD.out _).mono ?_
          rintro e u ⟨rfl, hx⟩; replace h1 := h1.trans (hx.mono h1.size); clear hx
          go_wp2_with fail
          refine (wr_bet2 (HL.out.below h1) HD.out _).mono ?_
          rintro e u ⟨rfl, hx⟩; replace h1 := h1.trans (hx.mono h1.size); clear hx
          go_wp2_with fail
          refine (wr_age (HL.out.below h1) HD.out _).mono ?_
          rintro e u ⟨rfl, hx⟩; replace h1 := h1.trans (hx.mono h1.size); clear hx
          go_wp2_with fail
          refine (wr_age2 (HL.out.below h1) HD.out _).mono ?_
          rintro e u ⟨rfl, hx⟩; replace h1 := h1.trans (hx.mono h1.size); clear hx
          go_wp2_with fail
          refine (wr_month (HL.out.below h1) HD.out).mono ?_
          rintro e u ⟨rfl, hx⟩; replace h1 := h1.trans (hx.mono h1.size); clear hx
          go_wp2_with fail
          refine (wr_first (HL.out.below h1) HM.out).mono ?_
          rintro e u ⟨rfl, hx⟩; replace h1 := h1.trans (hx.mono h1.size); clear hx
          go_wp2_with fail
          refine (wr_day (HL.out.below h1) HM.out).mono ?_
          rintro e u ⟨rfl, hx⟩; replace h1 := h1.trans (hx.mono h1.size); clear hx
          go_wp2_with fail
          refine (wr_day2 (HL.out.below h1) HD.out).mono ?_
          rintro e u ⟨rfl, hx⟩; replace h1 := h1.trans (hx.mono h1.size); clear hx
          go_wp2_with fail
          refine (wr_len (HL.out.below h1) HM.out).mono ?_
          rintro e u ⟨rfl, rfl⟩
          go_wp2_with fail
          refine (wr_text (HL.out.below h1) HD.out).mono ?_
          rintro e u ⟨rfl, hx⟩; replace h1 := h1.trans (hx.mono h1.size); clear hx
          go_wp2_with fail
          go_ret
          exact ⟨rfl, h1⟩
    · have g5 : d < 1900 := by omega
      clear hd
      by_cases hm : IsM m
      · have HM := hid (notM_of hm)
        obtain ⟨m0, m1⟩ := hm
        have g1 : ¬ m + 2154 < 1 := by omega
        have g2 : 12 < m + 2154 := by omega
        go_enter Tryd.func14, Tryd.ntmps14
        go_wp2_with fail
        refine (awake_any HL.out).mono ?_
        rintro e u1 ⟨rfl, h1⟩
        go_wp2_with fail
        refine (pick_any _ _ _ (by omega) (by omega)).mono ?_
        rintro e u ⟨rfl, rfl⟩
        go_wp2_with fail
        refine (wr_add (HL.out.below h1) HD.out _).mono ?_
        rintro e u ⟨rfl, hx⟩; replace h1 := h1.trans (hx.mono h1.size); clear hx
        go_wp2_with fail
        refine (wr_bet (HL.out.below h1) HD.out _).mono ?_
        rintro e u ⟨rfl, hx⟩; replace h1 := h1.trans (hx.mono h1.size); clear hx
        go_wp2_with fail
        refine (wr_bet2 (HL.out.below h1) HD.out _).mono ?_
        rintro e u ⟨rfl, hx⟩; replace h1 := h1.trans (hx.mono h1.size); clear hx
        go_wp2_with fail
        refine (wr_age (HL.out.below h1) HD.out _).mono ?_
        rintro e u ⟨rfl, hx⟩; replace h1 := h1.trans (hx.mono h1.size); clear hx
        go_wp2_with fail
        refine (wr_age2 (HL.out.below h1) HD.out _).mono ?_
        rintro e u ⟨rfl, hx⟩; replace h1 := h1.trans (hx.mono h1.size); clear hx
        go_wp2_with fail
        refine (wr_month (HL.out.below h1) HD.out).mono ?_
        rintro e u ⟨rfl, hx⟩; replace h1 := h1.trans (hx.mono h1.size); clear hx
        go_wp2_with fail
        refine (wr_first (HL.out.below h1) HM.out).mono ?_
        rintro e u ⟨rfl, hx⟩; replace h1 := h1.trans (hx.mono h1.size); clear hx
        go_wp2_with fail
        refine (wr_day (HL.out.below h1) HM.out).mono ?_
        rintro e u ⟨rfl, hx⟩; replace h1 := h1.trans (hx.mono h1.size); clear hx
        go_wp2_with fail
        refine (wr_day2 (HL.out.below h1) HD.out).mono ?_
        rintro e u ⟨rfl, hx⟩; replace h1 := h1.trans (hx.mono h1.size); clear hx
        go_wp2_with fail
        refine (wr_len (HL.out.below h1) HM.out).mono ?_
        rintro e u ⟨rfl, rfl⟩
        go_wp2_with fail
        refine (wr_text (HL.out.below h1) HD.out).mono ?_
        rintro e u ⟨rfl, hx⟩; replace h1 := h1.trans (hx.mono h1.size); clear hx
        go_wp2_with fail
        go_ret
        exact ⟨rfl, h1⟩
      · have HM := hid hm
        by_cases m0 : 0 ≤ m
        · have m1 : ¬ m < 2154 := fun g => hm ⟨m0, g⟩
          have g2 : 12 < m := by omega
          clear hm
          go_enter Tryd.func14, Tryd.ntmps14
          go_wp2_with fail
          refine (awake_any HL.out).mono ?_
          rintro e u1 ⟨rfl, h1⟩
          go_wp2_with fail
          refine (pick_any _ _ _ (by omega) (by omega)).mono ?_
          rintro e u ⟨rfl, rfl⟩
          go_wp2_with fail
          refine (wr_add (HL.out.below h1) HD.out _).mono ?_
          rintro e u ⟨rfl, hx⟩; replace h1 := h1.trans (hx.mono h1.size); clear hx
          go_wp2_with fail
          refine (wr_bet (HL.out.below h1) HD.out _).mono ?_
          rintro e u ⟨rfl, hx⟩; replace h1 := h1.trans (hx.mono h1.size); clear hx
          go_wp2_with fail
          refine (wr_bet2 (HL.out.below h1) HD.out _).mono ?_
          rintro e u ⟨rfl, hx⟩; replace h1 := h1.trans (hx.mono h1.size); clear hx
          go_wp2_with fail
          refine (wr_age (HL.out.below h1) HD.out _).mono ?_
          rintro e u ⟨rfl, hx⟩; replace h1 := h1.trans (hx.mono h1.size); clear hx
          go_wp2_with fail
          refine (wr_age2 (HL.out.below h1) HD.out _).mono ?_
          rintro e u ⟨rfl, hx⟩; replace h1 := h1.trans (hx.mono h1.size); clear hx
          go_wp2_with fail
          refine (wr_month (HL.out.below h1) HD.out).mono ?_
          rintro e u ⟨rfl, hx⟩; replace h1 := h1.trans (hx.mono h1.size); clear hx
          go_wp2_with fail
          refine (wr_first (HL.out.below h1) HM.out).mono ?_
          rintro e u ⟨rfl, hx⟩; replace h1 := h1.trans (hx.mono h1.size); clear hx
          go_wp2_with fail
          refine (wr_day (HL.out.below h1) HM.out).mono ?_
          rintro e u ⟨rfl, hx⟩; replace h1 := h1.trans (hx.mono h1.size); clear hx
          go_wp2_with fail
          refine (wr_day2 (HL.out.below h1) HD.out).mono ?_
          rintro e u ⟨rfl, hx⟩; replace h1 := h1.trans (hx.mono h1.size); clear hx
          go_wp2_with fail
          refine (wr_len (HL.out.below h1) HM.out).mono ?_
          rintro e u ⟨rfl, rfl⟩
          go_wp2_with fail
          refine (wr_text (HL.out.below h1) HD.out).mono ?_
          rintro e u ⟨rfl, hx⟩; replace h1 := h1.trans (hx.mono h1.size); clear hx
          go_wp2_with fail
          go_ret
          exact ⟨rfl, h1⟩
        · clear hm
          go_enter Tryd.func14, Tryd.ntmps14
          go_wp2_with fail
          refine (awake_any HL.out).mono ?_
          rintro e u1 ⟨rfl, h1⟩
          go_wp2_with fail
          refine (pick_any _ _ _ (by omega) (by omega)).mono ?_
          rintro e u ⟨rfl, rfl⟩
          go_wp2_with fail
          refine (wr_add (HL.out.below h1) HD.out _).mono ?_
          rintro e u ⟨rfl, hx⟩; replace h1 := h1.trans (hx.mono h1.size); clear hx
          go_wp2_with fail
          refine (wr_bet (HL.out.below h1) HD.out _).mono ?_
          rintro e u ⟨rfl, hx⟩; replace h1 := h1.trans (hx.mono h1.size); clear hx
          go_wp2_with fail
          refine (wr_bet2 (HL.out.below h1) HD.out _).mono ?_
          rintro e u ⟨rfl, hx⟩; replace h1 := h1.trans (hx.mono h1.size); clear hx
          go_wp2_with fail
          refine (wr_age (HL.out.below h1) HD.out _).mono ?_
          rintro e u ⟨rfl, hx⟩; replace h1 := h1.trans (hx.mono h1.size); clear hx
          go_wp2_with fail
          refine (wr_age2 (HL.out.below h1) HD.out _).mono ?_
          rintro e u ⟨rfl, hx⟩; replace h1 := h1.trans (hx.mono h1.size); clear hx
          go_wp2_with fail
          refine (wr_month (HL.out.below h1) HD.out).mono ?_
          rintro e u ⟨rfl, hx⟩; replace h1 := h1.trans (hx.mono h1.size); clear hx
          go_wp2_with fail
          refine (wr_first (HL.out.below h1) HM.out).mono ?_
          rintro e u ⟨rfl, hx⟩; replace h1 := h1.trans (hx.mono h1.size); clear hx
          go_wp2_with fail
          refine (wr_day (HL.out.below h1) HM.out).mono ?_
          rintro e u ⟨rfl, hx⟩; replace h1 := h1.trans (hx.mono h1.size); clear hx
          go_wp2_with fail
          refine (wr_day2 (HL.out.below h1) HD.out).mono ?_
          rintro e u ⟨rfl, hx⟩; replace h1 := h1.trans (hx.mono h1.size); clear hx
          go_wp2_with fail
          refine (wr_len (HL.out.below h1) HM.out).mono ?_
          rintro e u ⟨rfl, rfl⟩
          go_wp2_with fail
          refine (wr_text (HL.out.below h1) HD.out).mono ?_
          rintro e u ⟨rfl, hx⟩; replace h1 := h1.trans (hx.mono h1.size); clear hx
          go_wp2_with fail
          go_ret
          exact ⟨rfl, h1⟩
end Go.Proofs.YtmpkjooglpomoaaDoor
