/- Whole months: CalendarWhole's function returns true. -/
import Derived.Test.YtmpkjooglpomoaaDoorDc
namespace Go.Proofs.YtmpkjooglpomoaaDoor
open Go.RowKit Go.Lib

theorem toD_le {d : Int} (h0 : 0 ≤ d) {j k : Int} (h : j ≤ k) : toD d j ≤ toD d k := by
  rcases (by omega : j = k ∨ j < k) with e | e
  · rw [e]; omega
  · have := toD_lt h0 e; omega
/-- What is so of two dates, the first of which is not later. -/
theorem whole_facts {a b : Int} (ha : IsD a) (hb : IsD b) (hab : a ≤ b) :
    betV a b = whole a b ∧ betV b a = - whole a b ∧ errDD a b = 0 ∧ errDD b a = 0 ∧ ageV a b = whole a b / 12 ∧ ageE a b = 0 ∧
    addE a (whole a b) = 0 ∧ a ≤ addV a (whole a b) ∧ addV a (whole a b) ≤ b ∧ (addE a (whole a b + 1) = 30 ∨ (addE a (whole a b + 1) = 0 ∧ b < addV a (whole a b + 1))) := by
  have h0 := whole_nn ha.1 hab
  have h1 := whole_le ha.1 hab
  have h2 := whole_gt ha.1 hab
  have ⟨a0, a1⟩ := mon_lt ha.1 ha.2
  have hk : mon a + whole a b < 2154 := by
    by_cases g : mon a + whole a b < 2154
    · exact g
    · have := (toD_bd ha.1 (mon a + whole a b)).1
      have := st_lt (j := 2154) (k := mon a + whole a b) (by omega)
      rw [st_2154] at this; have := hb.2; omega
  have e1 := bet_in ha hb
  have e2 := bet_in hb ha
  have e3 := age_in ha hb hab
  have ⟨x1, x2⟩ := addV_ok (d := a) (n := whole a b) ha ⟨by omega, hk⟩ (by have := hb.2; omega)
  have hlo : a ≤ toD a (mon a + whole a b) := by
    have := toD_le ha.1 (j := mon a) (k := mon a + whole a b) (by omega); rw [toD_self ha.1] at this; exact this
  refine ⟨by rw [e1.1, if_neg (by omega)], ?_, e1.2, e2.2, e3.1, e3.2, x2, by rw [x1]; exact hlo, by rw [x1]; exact h1, ?_⟩
  · rw [e2.1]
    by_cases g : a < b
    · rw [if_pos g]
    · obtain rfl : a = b := by omega
      have : whole a a = 0 := whole_uniq ha.1 (Int.le_refl a) (by rw [Int.add_zero, toD_self ha.1]; omega) (by rw [Int.add_zero]; have := toD_lt ha.1 (j := mon a) (k := mon a + 1) (by omega); rw [toD_self ha.1] at this; omega)
      rw [if_neg g, this]; rfl
  · by_cases ok : AddOk a (whole a b + 1)
    · have ⟨y1, y2⟩ := addV_ok ha ok.1 ok.2
      refine Or.inr ⟨y2, ?_⟩
      rw [y1, show mon a + (whole a b + 1) = mon a + whole a b + 1 by omega]; exact h2
    · exact Or.inl (addV_no ha ok).2

set_option maxRecDepth 100000 in
set_option maxHeartbeats 20000000 in
theorem whole_law (x y : Int) {w : World} (hL : Laid w) :
    Calls Tryd.prog 11 #[.int .i64 x, .int .i64 y] w fun e w' => e = .returned (.bool true) ∧ Below w.heap.size w w' := by
  have HL := hid hL
  clear hL
  have P1 := hid (fun w1 => pick_any x 65536 w1 (by omega) (by omega))
  have P2 := hid (fun w1 => pick_any y 65536 w1 (by omega) (by omega))
  have ⟨x0, x1⟩ := pick_bd x (n := 65536) (by omega)
  have ⟨y0, y1⟩ := pick_bd y (n := 65536) (by omega)
  generalize x % 65536 = a at *
  generalize y % 65536 = b at *
  rcases (by omega : a < b ∨ b < a ∨ a = b) with hc | hc | hc
  · have hn : ¬ b ≤ a := by omega
    have hle : a ≤ b := by omega
    have ⟨f1, f2, f3, f4, f5, f6, f7, f8, f9, f10⟩ := whole_facts (a := a) (b := b) ⟨by omega, by omega⟩ ⟨by omega, by omega⟩ (by omega)
    have W0 := whole_nn (a := a) (b := b) (by omega) (by omega)
    have W1 := whole_up (a := a) (b := b) (by omega) (by omega) (by omega)
    generalize whole a b = W at *
    have H1 := hid (fun w1 (h1 : Laid w1) => between_any a b h1)
    have H2 := hid (fun w1 (h1 : Laid w1) => between_any b a h1)
    have H3 := hid (fun w1 (h1 : Laid w1) => add_any a W h1)
    have H4 := hid (fun w1 (h1 : Laid w1) => add_any a (W + 1) h1)
    have H5 := hid (fun w1 (h1 : Laid w1) => age_any a b h1)
    rw [f1, f3] at H1
    rw [f2, f4] at H2
    rw [f7] at H3
    rw [f5, f6] at H5
    generalize addV a W = X at *
    generalize addV a (W + 1) = Y at *
    generalize addE a (W + 1) = F at *
    clear f1 f2 f3 f4 f5 f6 f7
    rcases f10 with hF | ⟨hF, hY⟩
    · subst hF
      go_enter Tryd.func11, Tryd.ntmps11
      go_wp2_with fail
      refine (awake_any HL.out).mono ?_
      rintro e u1 ⟨rfl, h1⟩
      go_wp2_with fail
      refine (P1.out _).mono ?_
      rintro e u ⟨rfl, rfl⟩
      go_wp2_with fail
      refine (P2.out _).mono ?_
      rintro e u ⟨rfl, rfl⟩
      go_wp2_with fail
      refine (H1.out _ (HL.out.below h1)).mono ?_
      rintro e u ⟨rfl, hx⟩; replace h1 := h1.trans (hx.mono h1.size); clear hx
      go_wp2_with fail
      refine (H2.out _ (HL.out.below h1)).mono ?_
      rintro e u ⟨rfl, hx⟩; replace h1 := h1.trans (hx.mono h1.size); clear hx
      go_wp2_with fail
      refine (H3.out _ (HL.out.below h1)).mono ?_
      rintro e u ⟨rfl, hx⟩; replace h1 := h1.trans (hx.mono h1.size); clear hx
      go_wp2_with fail
      refine (H4.out _ (HL.out.below h1)).mono ?_
      rintro e u ⟨rfl, hx⟩; replace h1 := h1.trans (hx.mono h1.size); clear hx
      go_wp2_with fail
      refine (H5.out _ (HL.out.below h1)).mono ?_
      rintro e u ⟨rfl, hx⟩; replace h1 := h1.trans (hx.mono h1.size); clear hx
      go_wp2_with fail
      go_ret
      exact ⟨rfl, h1⟩
    · subst hF
      go_enter Tryd.func11, Tryd.ntmps11
      go_wp2_with fail
      refine (awake_any HL.out).mono ?_
      rintro e u1 ⟨rfl, h1⟩
      go_wp2_with fail
      refine (P1.out _).mono ?_
      rintro e u ⟨rfl, rfl⟩
      go_wp2_with fail
      refine (P2.out _).mono ?_
      rintro e u ⟨rfl, rfl⟩
      go_wp2_with fail
      refine (H1.out _ (HL.out.below h1)).mono ?_
      rintro e u ⟨rfl, hx⟩; replace h1 := h1.trans (hx.mono h1.size); clear hx
      go_wp2_with fail
      refine (H2.out _ (HL.out.below h1)).mono ?_
      rintro e u ⟨rfl, hx⟩; replace h1 := h1.trans (hx.mono h1.size); clear hx
      go_wp2_with fail
      refine (H3.out _ (HL.out.below h1)).mono ?_
      rintro e u ⟨rfl, hx⟩; replace h1 := h1.trans (hx.mono h1.size); clear hx
      go_wp2_with fail
      refine (H4.out _ (HL.out.below h1)).mono ?_
      rintro e u ⟨rfl, hx⟩; replace h1 := h1.trans (hx.mono h1.size); clear hx
      go_wp2_with fail
      refine (H5.out _ (HL.out.below h1)).mono ?_
      rintro e u ⟨rfl, hx⟩; replace h1 := h1.trans (hx.mono h1.size); clear hx
      go_wp2_with fail
      go_ret
      exact ⟨rfl, h1⟩
  · have hn : ¬ a ≤ b := by omega
    have hle : b ≤ a := by omega
    have ⟨f1, f2, f3, f4, f5, f6, f7, f8, f9, f10⟩ := whole_facts (a := b) (b := a) ⟨by omega, by omega⟩ ⟨by omega, by omega⟩ (by omega)
    have W0 := whole_nn (a := b) (b := a) (by omega) (by omega)
    have W1 := whole_up (a := b) (b := a) (by omega) (by omega) (by omega)
    generalize whole b a = W at *
    have H1 := hid (fun w1 (h1 : Laid w1) => between_any b a h1)
    have H2 := hid (fun w1 (h1 : Laid w1) => between_any a b h1)
    have H3 := hid (fun w1 (h1 : Laid w1) => add_any b W h1)
    have H4 := hid (fun w1 (h1 : Laid w1) => add_any b (W + 1) h1)
    have H5 := hid (fun w1 (h1 : Laid w1) => age_any b a h1)
    rw [f1, f3] at H1
    rw [f2, f4] at H2
    rw [f7] at H3
    rw [f5, f6] at H5
    generalize addV b W = X at *
    generalize addV b (W + 1) = Y at *
    generalize addE b (W + 1) = F at *
    clear f1 f2 f3 f4 f5 f6 f7
    rcases f10 with hF | ⟨hF, hY⟩
    · subst hF
      go_enter Tryd.func11, Tryd.ntmps11
      go_wp2_with fail
      refine (awake_any HL.out).mono ?_
      rintro e u1 ⟨rfl, h1⟩
      go_wp2_with fail
      refine (P1.out _).mono ?_
      rintro e u ⟨rfl, rfl⟩
      go_wp2_with fail
      refine (P2.out _).mono ?_
      rintro e u ⟨rfl, rfl⟩
      go_wp2_with fail
      refine (H1.out _ (HL.out.below h1)).mono ?_
      rintro e u ⟨rfl, hx⟩; replace h1 := h1.trans (hx.mono h1.size); clear hx
      go_wp2_with fail
      refine (H2.out _ (HL.out.below h1)).mono ?_
      rintro e u ⟨rfl, hx⟩; replace h1 := h1.trans (hx.mono h1.size); clear hx
      go_wp2_with fail
      refine (H3.out _ (HL.out.below h1)).mono ?_
      rintro e u ⟨rfl, hx⟩; replace h1 := h1.trans (hx.mono h1.size); clear hx
      go_wp2_with fail
      refine (H4.out _ (HL.out.below h1)).mono ?_
      rintro e u ⟨rfl, hx⟩; replace h1 := h1.trans (hx.mono h1.size); clear hx
      go_wp2_with fail
      refine (H5.out _ (HL.out.below h1)).mono ?_
      rintro e u ⟨rfl, hx⟩; replace h1 := h1.trans (hx.mono h1.size); clear hx
      go_wp2_with fail
      go_ret
      exact ⟨rfl, h1⟩
    · subst hF
      go_enter Tryd.func11, Tryd.ntmps11
      go_wp2_with fail
      refine (awake_any HL.out).mono ?_
      rintro e u1 ⟨rfl, h1⟩
      go_wp2_with fail
      refine (P1.out _).mono ?_
      rintro e u ⟨rfl, rfl⟩
      go_wp2_with fail
      refine (P2.out _).mono ?_
      rintro e u ⟨rfl, rfl⟩
      go_wp2_with fail
      refine (H1.out _ (HL.out.below h1)).mono ?_
      rintro e u ⟨rfl, hx⟩; replace h1 := h1.trans (hx.mono h1.size); clear hx
      go_wp2_with fail
      refine (H2.out _ (HL.out.below h1)).mono ?_
      rintro e u ⟨rfl, hx⟩; replace h1 := h1.trans (hx.mono h1.size); clear hx
      go_wp2_with fail
      refine (H3.out _ (HL.out.below h1)).mono ?_
      rintro e u ⟨rfl, hx⟩; replace h1 := h1.trans (hx.mono h1.size); clear hx
      go_wp2_with fail
      refine (H4.out _ (HL.out.below h1)).mono ?_
      rintro e u ⟨rfl, hx⟩; replace h1 := h1.trans (hx.mono h1.size); clear hx
      go_wp2_with fail
      refine (H5.out _ (HL.out.below h1)).mono ?_
      rintro e u ⟨rfl, hx⟩; replace h1 := h1.trans (hx.mono h1.size); clear hx
      go_wp2_with fail
      go_ret
      exact ⟨rfl, h1⟩
  · subst hc
    have ⟨f1, f2, f3, f4, f5, f6, f7, f8, f9, f10⟩ := whole_facts (a := a) (b := a) ⟨by omega, by omega⟩ ⟨by omega, by omega⟩ (by omega)
    have W0 := whole_nn (a := a) (b := a) (by omega) (by omega)
    have W1 := whole_up (a := a) (b := a) (by omega) (by omega) (by omega)
    generalize whole a a = W at *
    have H1 := hid (fun w1 (h1 : Laid w1) => between_any a a h1)
    have H2 := hid (fun w1 (h1 : Laid w1) => between_any a a h1)
    have H3 := hid (fun w1 (h1 : Laid w1) => add_any a W h1)
    have H4 := hid (fun w1 (h1 : Laid w1) => add_any a (W + 1) h1)
    have H5 := hid (fun w1 (h1 : Laid w1) => age_any a a h1)
    rw [f1, f3] at H1
    rw [f2, f4] at H2
    rw [f7] at H3
    rw [f5, f6] at H5
    generalize addV a W = X at *
    generalize addV a (W + 1) = Y at *
    generalize addE a (W + 1) = F at *
    clear f1 f2 f3 f4 f5 f6 f7
    rcases f10 with hF | ⟨hF, hY⟩
    · subst hF
      go_enter Tryd.func11, Tryd.ntmps11
      go_wp2_with fail
      refine (awake_any HL.out).mono ?_
      rintro e u1 ⟨rfl, h1⟩
      go_wp2_with fail
      refine (P1.out _).mono ?_
      rintro e u ⟨rfl, rfl⟩
      go_wp2_with fail
      refine (P2.out _).mono ?_
      rintro e u ⟨rfl, rfl⟩
      go_wp2_with fail
      refine (H1.out _ (HL.out.below h1)).mono ?_
      rintro e u ⟨rfl, hx⟩; replace h1 := h1.trans (hx.mono h1.size); clear hx
      go_wp2_with fail
      refine (H2.out _ (HL.out.below h1)).mono ?_
      rintro e u ⟨rfl, hx⟩; replace h1 := h1.trans (hx.mono h1.size); clear hx
      go_wp2_with fail
      refine (H3.out _ (HL.out.below h1)).mono ?_
      rintro e u ⟨rfl, hx⟩; replace h1 := h1.trans (hx.mono h1.size); clear hx
      go_wp2_with fail
      refine (H4.out _ (HL.out.below h1)).mono ?_
      rintro e u ⟨rfl, hx⟩; replace h1 := h1.trans (hx.mono h1.size); clear hx
      go_wp2_with fail
      refine (H5.out _ (HL.out.below h1)).mono ?_
      rintro e u ⟨rfl, hx⟩; replace h1 := h1.trans (hx.mono h1.size); clear hx
      go_wp2_with fail
      go_ret
      exact ⟨rfl, h1⟩
    · subst hF
      go_enter Tryd.func11, Tryd.ntmps11
      go_wp2_with fail
      refine (awake_any HL.out).mono ?_
      rintro e u1 ⟨rfl, h1⟩
      go_wp2_with fail
      refine (P1.out _).mono ?_
      rintro e u ⟨rfl, rfl⟩
      go_wp2_with fail
      refine (P2.out _).mono ?_
      rintro e u ⟨rfl, rfl⟩
      go_wp2_with fail
      refine (H1.out _ (HL.out.below h1)).mono ?_
      rintro e u ⟨rfl, hx⟩; replace h1 := h1.trans (hx.mono h1.size); clear hx
      go_wp2_with fail
      refine (H2.out _ (HL.out.below h1)).mono ?_
      rintro e u ⟨rfl, hx⟩; replace h1 := h1.trans (hx.mono h1.size); clear hx
      go_wp2_with fail
      refine (H3.out _ (HL.out.below h1)).mono ?_
      rintro e u ⟨rfl, hx⟩; replace h1 := h1.trans (hx.mono h1.size); clear hx
      go_wp2_with fail
      refine (H4.out _ (HL.out.below h1)).mono ?_
      rintro e u ⟨rfl, hx⟩; replace h1 := h1.trans (hx.mono h1.size); clear hx
      go_wp2_with fail
      refine (H5.out _ (HL.out.below h1)).mono ?_
      rintro e u ⟨rfl, hx⟩; replace h1 := h1.trans (hx.mono h1.size); clear hx
      go_wp2_with fail
      go_ret
      exact ⟨rfl, h1⟩
end Go.Proofs.YtmpkjooglpomoaaDoor
