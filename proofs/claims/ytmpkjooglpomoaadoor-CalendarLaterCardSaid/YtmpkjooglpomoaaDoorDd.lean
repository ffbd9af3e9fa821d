/- The date some months later: CalendarLater's function returns true. -/
import Derived.Test.YtmpkjooglpomoaaDoorCm
namespace Go.Proofs.YtmpkjooglpomoaaDoor
open Go.RowKit Go.Lib

theorem ymd_65535 {w : World} (hL : Laid w) : Calls Tryd.prog 28 #[.int .i64 65535] w fun e w' => e = .returned (.tuple #[.int .i64 2079, .int .i64 6, .int .i64 6, .int .i64 0]) ∧ Below w.heap.size w w' := by
  have := ymd_any 65535 hL
  have ⟨e1, e2, e3, e4, _⟩ := ymd_in (d := 65535) (by decide)
  rw [e1, e2, e3, e4, mon_65535] at this
  exact this
theorem month_65535 {w : World} (hL : Laid w) : Calls Tryd.prog 30 #[.int .i64 65535] w fun e w' => e = .returned (.tuple #[.int .i64 2153, .int .i64 0]) ∧ Below w.heap.size w w' := by
  have := month_any 65535 hL
  have ⟨_, _, _, e4, e5, _⟩ := ymd_in (d := 65535) (by decide)
  rwa [e4, e5, mon_65535] at this
theorem late_why {a n : Int} (h : IsD a) (hn : ¬ AddOk a n) : n < -mon a ∨ 2153 - mon a < n ∨ (n = 2153 - mon a ∧ 6 < a - st (mon a) + 1) := by
  by_cases h1 : IsM (mon a + n)
  · obtain ⟨m0, m1⟩ := h1
    have h2 : ¬ toD a (mon a + n) < 65536 := fun g => hn ⟨⟨m0, m1⟩, g⟩
    rcases (by omega : mon a + n ≤ 2152 ∨ mon a + n = 2153) with g | g
    · have := (toD_bd h.1 (mon a + n)).2
      have := st_lt (j := mon a + n + 1) (k := 2153) (by omega)
      rw [st_end] at this; omega
    · refine Or.inr (Or.inr ⟨by omega, ?_⟩)
      rw [g] at h2
      unfold toD at h2
      rw [st_end, show ml 2153 = 30 from rfl] at h2
      split at h2 <;> omega
  · by_cases g : 0 ≤ mon a + n
    · by_cases g2 : mon a + n < 2154
      · exact absurd ⟨g, g2⟩ h1
      · exact Or.inr (Or.inl (by omega))
    · exact Or.inl (by omega)

set_option maxRecDepth 100000 in
set_option maxHeartbeats 20000000 in
theorem later_law (a b n : Int) {w : World} (hL : Laid w) :
    Calls Tryd.prog 10 #[.int .i64 a, .int .i64 b, .int .i64 n] w fun e w' => e = .returned (.bool true) ∧ Below w.heap.size w w' := by
  have HL := hid hL
  clear hL
  have H1 := hid (fun w1 (h1 : Laid w1) => add_any a n h1)
  have H2 := hid (fun w1 (h1 : Laid w1) => add_any b n h1)
  have H3 := hid (fun w1 (h1 : Laid w1) => ymd_any a h1)
  have H4 := hid (fun w1 (h1 : Laid w1) => month_any a h1)
  by_cases h : IsD a
  · have ⟨e1, e2, e3, e4, e5, _⟩ := ymd_in h
    rw [e1, e2, e3, e4] at H3
    rw [e5, e4] at H4
    clear e1 e2 e3 e4 e5
    have ⟨b0, b1⟩ := mon_lt h.1 h.2
    have hd := mon_day h.1
    have hml := ml_bd (mon a)
    by_cases ok : AddOk a n
    · have ⟨x1, x2⟩ := addV_ok h ok.1 ok.2
      rw [x1, x2] at H1
      have hm := toD_mon h.1 ok.1.1
      have hX : IsD (toD a (mon a + n)) := ⟨by have := (toD_bd h.1 (mon a + n)).1; have := st_nn ok.1.1; omega, ok.2⟩
      have ⟨e1, e2, e3, e4, e5, _⟩ := ymd_in hX
      have H5 := hid (fun w1 (h1 : Laid w1) => month_any (toD a (mon a + n)) h1)
      have H6 := hid (fun w1 (h1 : Laid w1) => ymd_any (toD a (mon a + n)) h1)
      have H7 := hid (fun w1 (h1 : Laid w1) => len_any (yr (mon a + n)) (mo (mon a + n)) h1)
      rw [e1, e2, e3, e4, hm] at H6
      rw [e5, e4, hm] at H5
      have HF : Hid ((addE b n = 2 ∨ addE b n = 30) ∨ (addE b n = 0 ∧ (a ≤ b → toD a (mon a + n) ≤ addV b n) ∧ (b ≤ a → addV b n ≤ toD a (mon a + n)))) := by
        by_cases hb : IsD b
        · by_cases ok2 : AddOk b n
          · have ⟨y1, y2⟩ := addV_ok hb ok2.1 ok2.2
            refine Or.inr ⟨y2, fun g => ?_, fun g => ?_⟩
            · rw [y1]; exact toD_mono h.1 g
            · rw [y1]; exact toD_mono hb.1 g
          · exact Or.inl (Or.inr (addV_no hb ok2).2)
        · exact Or.inl (Or.inl (addV_arg hb).2)
      have hR : toD a (mon a + n) - st (mon a + n) + 1 = if a - st (mon a) + 1 ≤ ml (mon a + n) then a - st (mon a) + 1 else ml (mon a + n) := by
        unfold toD; split <;> split <;> omega
      rw [hR] at H6
      have hl : lenM (yr (mon a + n)) (mo (mon a + n)) = ml (mon a + n) := rfl
      rw [hl] at H7
      have k0 := ok.1.1
      have k1 := ok.1.2
      clear e1 e2 e3 e4 e5 hm hX ok x1 x2 hR hl
      generalize toD a (mon a + n) = X at *
      generalize addV b n = Y at *
      generalize addE b n = F at *
      generalize yr (mon a + n) = P at *
      generalize mo (mon a + n) = Q at *
      generalize ml (mon a + n) = L at *
      have n0 : -2154 < n := by omega
      have n1 : n < 2154 := by omega
      have d1 : 1 ≤ a - st (mon a) + 1 := by omega
      have d31 : a - st (mon a) + 1 ≤ 31 := by omega
      generalize a - st (mon a) + 1 = D at *
      generalize yr (mon a) = Y0 at *
      generalize mo (mon a) = M0 at *
      generalize mon a = k at *
      clear h hd hml
      have e9 : IntKind.i64.wrap (k + n) = k + n := IntWalk.i64_in _ (by omega)
      by_cases hc : D ≤ L
      · rw [if_pos hc] at H6
        rcases HF.out with (hF | hF) | ⟨hF, hXY, hYX⟩
        · subst hF; clear HF
          go_enter Tryd.func10, Tryd.ntmps10
          go_wp2_with fail
          refine (awake_any HL.out).mono ?_
          rintro e u1 ⟨rfl, h1⟩
          go_wp2_with fail
          refine (H1.out _ (HL.out.below h1)).mono ?_
          rintro e u ⟨rfl, hx⟩; replace h1 := h1.trans (hx.mono h1.size); clear hx
          go_wp2_with fail
          refine (H2.out _ (HL.out.below h1)).mono ?_
          rintro e u ⟨rfl, hx⟩; replace h1 := h1.trans (hx.mono h1.size); clear hx
          go_wp2_with fail
          refine (H3.out _ (HL.out.below h1)).mono ?_
          rintro e u ⟨rfl, hx⟩; replace h1 := h1.trans (hx.mono h1.size); clear hx
          go_wp2_with fail
          refine (H4.out _ (HL.out.below h1)).mono ?_
          rintro e u ⟨rfl, hx⟩; replace h1 := h1.trans (hx.mono h1.size); clear hx
          go_wp2_with fail
          refine (H5.out _ (HL.out.below h1)).mono ?_
          rintro e u ⟨rfl, hx⟩; replace h1 := h1.trans (hx.mono h1.size); clear hx
          go_wp2_with fail
          refine (H6.out _ (HL.out.below h1)).mono ?_
          rintro e u ⟨rfl, hx⟩; replace h1 := h1.trans (hx.mono h1.size); clear hx
          go_wp2_with fail
          refine (H7.out _ (HL.out.below h1)).mono ?_
          rintro e u ⟨rfl, rfl⟩
          go_wp2_with fail
          go_ret
          exact ⟨rfl, h1⟩
        · subst hF; clear HF
          go_enter Tryd.func10, Tryd.ntmps10
          go_wp2_with fail
          refine (awake_any HL.out).mono ?_
          rintro e u1 ⟨rfl, h1⟩
          go_wp2_with fail
          refine (H1.out _ (HL.out.below h1)).mono ?_
          rintro e u ⟨rfl, hx⟩; replace h1 := h1.trans (hx.mono h1.size); clear hx
          go_wp2_with fail
          refine (H2.out _ (HL.out.below h1)).mono ?_
          rintro e u ⟨rfl, hx⟩; replace h1 := h1.trans (hx.mono h1.size); clear hx
          go_wp2_with fail
          refine (H3.out _ (HL.out.below h1)).mono ?_
          rintro e u ⟨rfl, hx⟩; replace h1 := h1.trans (hx.mono h1.size); clear hx
          go_wp2_with fail
          refine (H4.out _ (HL.out.below h1)).mono ?_
          rintro e u ⟨rfl, hx⟩; replace h1 := h1.trans (hx.mono h1.size); clear hx
          go_wp2_with fail
          refine (H5.out _ (HL.out.below h1)).mono ?_
          rintro e u ⟨rfl, hx⟩; replace h1 := h1.trans (hx.mono h1.size); clear hx
          go_wp2_with fail
          refine (H6.out _ (HL.out.below h1)).mono ?_
          rintro e u ⟨rfl, hx⟩; replace h1 := h1.trans (hx.mono h1.size); clear hx
          go_wp2_with fail
          refine (H7.out _ (HL.out.below h1)).mono ?_
          rintro e u ⟨rfl, rfl⟩
          go_wp2_with fail
          go_ret
          exact ⟨rfl, h1⟩
        · subst hF; clear HF
          rcases (by omega : a < b ∨ b < a ∨ (¬ a < b ∧ ¬ b < a)) with g | g | ⟨g, g2⟩
          · have q1 : X ≤ Y := hXY (by omega)
            have q2 : ¬ b < a := by omega
            clear hXY hYX
            go_enter Tryd.func10, Tryd.ntmps10
            go_wp2_with fail
            refine (awake_any HL.out).mono ?_
            rintro e u1 ⟨rfl, h1⟩
            go_wp2_with fail
            refine (H1.out _ (HL.out.below h1)).mono ?_
            rintro e u ⟨rfl, hx⟩; replace h1 := h1.trans (hx.mono h1.size); clear hx
            go_wp2_with fail
            refine (H2.out _ (HL.out.below h1)).mono ?_
            rintro e u ⟨rfl, hx⟩; replace h1 := h1.trans (hx.mono h1.size); clear hx
            go_wp2_with fail
            refine (H3.out _ (HL.out.below h1)).mono ?_
            rintro e u ⟨rfl, hx⟩; replace h1 := h1.trans (hx.mono h1.size); clear hx
            go_wp2_with fail
            refine (H4.out _ (HL.out.below h1)).mono ?_
            rintro e u ⟨rfl, hx⟩; replace h1 := h1.trans (hx.mono h1.size); clear hx
            go_wp2_with fail
            refine (H5.out _ (HL.out.below h1)).mono ?_
            rintro e u ⟨rfl, hx⟩; replace h1 := h1.trans (hx.mono h1.size); clear hx
            go_wp2_with fail
            refine (H6.out _ (HL.out.below h1)).mono ?_
            rintro e u ⟨rfl, hx⟩; replace h1 := h1.trans (hx.mono h1.size); clear hx
            go_wp2_with fail
            refine (H7.out _ (HL.out.below h1)).mono ?_
            rintro e u ⟨rfl, rfl⟩
            go_wp2_with fail
            go_ret
            exact ⟨rfl, h1⟩
          · have q1 : Y ≤ X := hYX (by omega)
            have q2 : ¬ a < b := by omega
            clear hXY hYX
            go_enter Tryd.func10, Tryd.ntmps10
            go_wp2_with fail
            refine (awake_any HL.out).mono ?_
            rintro e u1 ⟨rfl, h1⟩
            go_wp2_with fail
            refine (H1.out _ (HL.out.below h1)).mono ?_
            rintro e u ⟨rfl, hx⟩; replace h1 := h1.trans (hx.mono h1.size); clear hx
            go_wp2_with fail
            refine (H2.out _ (HL.out.below h1)).mono ?_
            rintro e u ⟨rfl, hx⟩; replace h1 := h1.trans (hx.mono h1.size); clear hx
            go_wp2_with fail
            refine (H3.out _ (HL.out.below h1)).mono ?_
            rintro e u ⟨rfl, hx⟩; replace h1 := h1.trans (hx.mono h1.size); clear hx
            go_wp2_with fail
            refine (H4.out _ (HL.out.below h1)).mono ?_
            rintro e u ⟨rfl, hx⟩; replace h1 := h1.trans (hx.mono h1.size); clear hx
            go_wp2_with fail
            refine (H5.out _ (HL.out.below h1)).mono ?_
            rintro e u ⟨rfl, hx⟩; replace h1 := h1.trans (hx.mono h1.size); clear hx
            go_wp2_with fail
            refine (H6.out _ (HL.out.below h1)).mono ?_
            rintro e u ⟨rfl, hx⟩; replace h1 := h1.trans (hx.mono h1.size); clear hx
            go_wp2_with fail
            refine (H7.out _ (HL.out.below h1)).mono ?_
            rintro e u ⟨rfl, rfl⟩
            go_wp2_with fail
            go_ret
            exact ⟨rfl, h1⟩
          · have q1 : X ≤ Y := hXY (by omega)
            have q2 : Y ≤ X := hYX (by omega)
            clear hXY hYX
            go_enter Tryd.func10, Tryd.ntmps10
            go_wp2_with fail
            refine (awake_any HL.out).mono ?_
            rintro e u1 ⟨rfl, h1⟩
            go_wp2_with fail
            refine (H1.out _ (HL.out.below h1)).mono ?_
            rintro e u ⟨rfl, hx⟩; replace h1 := h1.trans (hx.mono h1.size); clear hx
            go_wp2_with fail
            refine (H2.out _ (HL.out.below h1)).mono ?_
            rintro e u ⟨rfl, hx⟩; replace h1 := h1.trans (hx.mono h1.size); clear hx
            go_wp2_with fail
            refine (H3.out _ (HL.out.below h1)).mono ?_
            rintro e u ⟨rfl, hx⟩; replace h1 := h1.trans (hx.mono h1.size); clear hx
            go_wp2_with fail
            refine (H4.out _ (HL.out.below h1)).mono ?_
            rintro e u ⟨rfl, hx⟩; replace h1 := h1.trans (hx.mono h1.size); clear hx
            go_wp2_with fail
            refine (H5.out _ (HL.out.below h1)).mono ?_
            rintro e u ⟨rfl, hx⟩; replace h1 := h1.trans (hx.mono h1.size); clear hx
            go_wp2_with fail
            refine (H6.out _ (HL.out.below h1)).mono ?_
            rintro e u ⟨rfl, hx⟩; replace h1 := h1.trans (hx.mono h1.size); clear hx
            go_wp2_with fail
            refine (H7.out _ (HL.out.below h1)).mono ?_
            rintro e u ⟨rfl, rfl⟩
            go_wp2_with fail
            go_ret
            exact ⟨rfl, h1⟩
      · rw [if_neg hc] at H6
        rcases HF.out with (hF | hF) | ⟨hF, hXY, hYX⟩
        · subst hF; clear HF
          go_enter Tryd.func10, Tryd.ntmps10
          go_wp2_with fail
          refine (awake_any HL.out).mono ?_
          rintro e u1 ⟨rfl, h1⟩
          go_wp2_with fail
          refine (H1.out _ (HL.out.below h1)).mono ?_
          rintro e u ⟨rfl, hx⟩; replace h1 := h1.trans (hx.mono h1.size); clear hx
          go_wp2_with fail
          refine (H2.out _ (HL.out.below h1)).mono ?_
          rintro e u ⟨rfl, hx⟩; replace h1 := h1.trans (hx.mono h1.size); clear hx
          go_wp2_with fail
          refine (H3.out _ (HL.out.below h1)).mono ?_
          rintro e u ⟨rfl, hx⟩; replace h1 := h1.trans (hx.mono h1.size); clear hx
          go_wp2_with fail
          refine (H4.out _ (HL.out.below h1)).mono ?_
          rintro e u ⟨rfl, hx⟩; replace h1 := h1.trans (hx.mono h1.size); clear hx
          go_wp2_with fail
          refine (H5.out _ (HL.out.below h1)).mono ?_
          rintro e u ⟨rfl, hx⟩; replace h1 := h1.trans (hx.mono h1.size); clear hx
          go_wp2_with fail
          refine (H6.out _ (HL.out.below h1)).mono ?_
          rintro e u ⟨rfl, hx⟩; replace h1 := h1.trans (hx.mono h1.size); clear hx
          go_wp2_with fail
          refine (H7.out _ (HL.out.below h1)).mono ?_
          rintro e u ⟨rfl, rfl⟩
          go_wp2_with fail
          go_ret
          exact ⟨rfl, h1⟩
        · subst hF; clear HF
          go_enter Tryd.func10, Tryd.ntmps10
          go_wp2_with fail
          refine (awake_any HL.out).mono ?_
          rintro e u1 ⟨rfl, h1⟩
          go_wp2_with fail
          refine (H1.out _ (HL.out.below h1)).mono ?_
          rintro e u ⟨rfl, hx⟩; replace h1 := h1.trans (hx.mono h1.size); clear hx
          go_wp2_with fail
          refine (H2.out _ (HL.out.below h1)).mono ?_
          rintro e u ⟨rfl, hx⟩; replace h1 := h1.trans (hx.mono h1.size); clear hx
          go_wp2_with fail
          refine (H3.out _ (HL.out.below h1)).mono ?_
          rintro e u ⟨rfl, hx⟩; replace h1 := h1.trans (hx.mono h1.size); clear hx
          go_wp2_with fail
          refine (H4.out _ (HL.out.below h1)).mono ?_
          rintro e u ⟨rfl, hx⟩; replace h1 := h1.trans (hx.mono h1.size); clear hx
          go_wp2_with fail
          refine (H5.out _ (HL.out.below h1)).mono ?_
          rintro e u ⟨rfl, hx⟩; replace h1 := h1.trans (hx.mono h1.size); clear hx
          go_wp2_with fail
          refine (H6.out _ (HL.out.below h1)).mono ?_
          rintro e u ⟨rfl, hx⟩; replace h1 := h1.trans (hx.mono h1.size); clear hx
          go_wp2_with fail
          refine (H7.out _ (HL.out.below h1)).mono ?_
          rintro e u ⟨rfl, rfl⟩
          go_wp2_with fail
          go_ret
          exact ⟨rfl, h1⟩
        · subst hF; clear HF
          rcases (by omega : a < b ∨ b < a ∨ (¬ a < b ∧ ¬ b < a)) with g | g | ⟨g, g2⟩
          · have q1 : X ≤ Y := hXY (by omega)
            have q2 : ¬ b < a := by omega
            clear hXY hYX
            go_enter Tryd.func10, Tryd.ntmps10
            go_wp2_with fail
            refine (awake_any HL.out).mono ?_
            rintro e u1 ⟨rfl, h1⟩
            go_wp2_with fail
            refine (H1.out _ (HL.out.below h1)).mono ?_
            rintro e u ⟨rfl, hx⟩; replace h1 := h1.trans (hx.mono h1.size); clear hx
            go_wp2_with fail
            refine (H2.out _ (HL.out.below h1)).mono ?_
            rintro e u ⟨rfl, hx⟩; replace h1 := h1.trans (hx.mono h1.size); clear hx
            go_wp2_with fail
            refine (H3.out _ (HL.out.below h1)).mono ?_
            rintro e u ⟨rfl, hx⟩; replace h1 := h1.trans (hx.mono h1.size); clear hx
            go_wp2_with fail
            refine (H4.out _ (HL.out.below h1)).mono ?_
            rintro e u ⟨rfl, hx⟩; replace h1 := h1.trans (hx.mono h1.size); clear hx
            go_wp2_with fail
            refine (H5.out _ (HL.out.below h1)).mono ?_
            rintro e u ⟨rfl, hx⟩; replace h1 := h1.trans (hx.mono h1.size); clear hx
            go_wp2_with fail
            refine (H6.out _ (HL.out.below h1)).mono ?_
            rintro e u ⟨rfl, hx⟩; replace h1 := h1.trans (hx.mono h1.size); clear hx
            go_wp2_with fail
            refine (H7.out _ (HL.out.below h1)).mono ?_
            rintro e u ⟨rfl, rfl⟩
            go_wp2_with fail
            go_ret
            exact ⟨rfl, h1⟩
          · have q1 : Y ≤ X := hYX (by omega)
            have q2 : ¬ a < b := by omega
            clear hXY hYX
            go_enter Tryd.func10, Tryd.ntmps10
            go_wp2_with fail
            refine (awake_any HL.out).mono ?_
            rintro e u1 ⟨rfl, h1⟩
            go_wp2_with fail
            refine (H1.out _ (HL.out.below h1)).mono ?_
            rintro e u ⟨rfl, hx⟩; replace h1 := h1.trans (hx.mono h1.size); clear hx
            go_wp2_with fail
            refine (H2.out _ (HL.out.below h1)).mono ?_
            rintro e u ⟨rfl, hx⟩; replace h1 := h1.trans (hx.mono h1.size); clear hx
            go_wp2_with fail
            refine (H3.out _ (HL.out.below h1)).mono ?_
            rintro e u ⟨rfl, hx⟩; replace h1 := h1.trans (hx.mono h1.size); clear hx
            go_wp2_with fail
            refine (H4.out _ (HL.out.below h1)).mono ?_
            rintro e u ⟨rfl, hx⟩; replace h1 := h1.trans (hx.mono h1.size); clear hx
            go_wp2_with fail
            refine (H5.out _ (HL.out.below h1)).mono ?_
            rintro e u ⟨rfl, hx⟩; replace h1 := h1.trans (hx.mono h1.size); clear hx
            go_wp2_with fail
            refine (H6.out _ (HL.out.below h1)).mono ?_
            rintro e u ⟨rfl, hx⟩; replace h1 := h1.trans (hx.mono h1.size); clear hx
            go_wp2_with fail
            refine (H7.out _ (HL.out.below h1)).mono ?_
            rintro e u ⟨rfl, rfl⟩
            go_wp2_with fail
            go_ret
            exact ⟨rfl, h1⟩
          · have q1 : X ≤ Y := hXY (by omega)
            have q2 : Y ≤ X := hYX (by omega)
            clear hXY hYX
            go_enter Tryd.func10, Tryd.ntmps10
            go_wp2_with fail
            refine (awake_any HL.out).mono ?_
            rintro e u1 ⟨rfl, h1⟩
            go_wp2_with fail
            refine (H1.out _ (HL.out.below h1)).mono ?_
            rintro e u ⟨rfl, hx⟩; replace h1 := h1.trans (hx.mono h1.size); clear hx
            go_wp2_with fail
            refine (H2.out _ (HL.out.below h1)).mono ?_
            rintro e u ⟨rfl, hx⟩; replace h1 := h1.trans (hx.mono h1.size); clear hx
            go_wp2_with fail
            refine (H3.out _ (HL.out.below h1)).mono ?_
            rintro e u ⟨rfl, hx⟩; replace h1 := h1.trans (hx.mono h1.size); clear hx
            go_wp2_with fail
            refine (H4.out _ (HL.out.below h1)).mono ?_
            rintro e u ⟨rfl, hx⟩; replace h1 := h1.trans (hx.mono h1.size); clear hx
            go_wp2_with fail
            refine (H5.out _ (HL.out.below h1)).mono ?_
            rintro e u ⟨rfl, hx⟩; replace h1 := h1.trans (hx.mono h1.size); clear hx
            go_wp2_with fail
            refine (H6.out _ (HL.out.below h1)).mono ?_
            rintro e u ⟨rfl, hx⟩; replace h1 := h1.trans (hx.mono h1.size); clear hx
            go_wp2_with fail
            refine (H7.out _ (HL.out.below h1)).mono ?_
            rintro e u ⟨rfl, rfl⟩
            go_wp2_with fail
            go_ret
            exact ⟨rfl, h1⟩
    · have hw := late_why h ok
      have ⟨x1, x2⟩ := addV_no h ok
      rw [x1, x2] at H1
      clear ok x1 x2
      generalize addV b n = Y at *
      generalize addE b n = F at *
      have d31 : a - st (mon a) + 1 ≤ 31 := by omega
      generalize a - st (mon a) + 1 = D at *
      generalize yr (mon a) = Y0 at *
      generalize mo (mon a) = M0 at *
      generalize mon a = k at *
      clear h hd hml
      by_cases w1 : n < -k
      · clear hw
        go_enter Tryd.func10, Tryd.ntmps10
        go_wp2_with fail
        refine (awake_any HL.out).mono ?_
        rintro e u1 ⟨rfl, h1⟩
        go_wp2_with fail
        refine (H1.out _ (HL.out.below h1)).mono ?_
        rintro e u ⟨rfl, hx⟩; replace h1 := h1.trans (hx.mono h1.size); clear hx
        go_wp2_with fail
        refine (H2.out _ (HL.out.below h1)).mono ?_
        rintro e u ⟨rfl, hx⟩; replace h1 := h1.trans (hx.mono h1.size); clear hx
        go_wp2_with fail
        refine (H3.out _ (HL.out.below h1)).mono ?_
        rintro e u ⟨rfl, hx⟩; replace h1 := h1.trans (hx.mono h1.size); clear hx
        go_wp2_with fail
        refine (H4.out _ (HL.out.below h1)).mono ?_
        rintro e u ⟨rfl, hx⟩; replace h1 := h1.trans (hx.mono h1.size); clear hx
        go_wp2_with fail
        refine (month_65535 (HL.out.below h1)).mono ?_
        rintro e u ⟨rfl, hx⟩; replace h1 := h1.trans (hx.mono h1.size); clear hx
        go_wp2_with fail
        refine (ymd_65535 (HL.out.below h1)).mono ?_
        rintro e u ⟨rfl, hx⟩; replace h1 := h1.trans (hx.mono h1.size); clear hx
        go_wp2_with fail
        go_ret
        exact ⟨rfl, h1⟩
      · by_cases w2 : 2153 - k < n
        · clear hw
          go_enter Tryd.func10, Tryd.ntmps10
          go_wp2_with fail
          refine (awake_any HL.out).mono ?_
          rintro e u1 ⟨rfl, h1⟩
          go_wp2_with fail
          refine (H1.out _ (HL.out.below h1)).mono ?_
          rintro e u ⟨rfl, hx⟩; replace h1 := h1.trans (hx.mono h1.size); clear hx
          go_wp2_with fail
          refine (H2.out _ (HL.out.below h1)).mono ?_
          rintro e u ⟨rfl, hx⟩; replace h1 := h1.trans (hx.mono h1.size); clear hx
          go_wp2_with fail
          refine (H3.out _ (HL.out.below h1)).mono ?_
          rintro e u ⟨rfl, hx⟩; replace h1 := h1.trans (hx.mono h1.size); clear hx
          go_wp2_with fail
          refine (H4.out _ (HL.out.below h1)).mono ?_
          rintro e u ⟨rfl, hx⟩; replace h1 := h1.trans (hx.mono h1.size); clear hx
          go_wp2_with fail
          refine (month_65535 (HL.out.below h1)).mono ?_
          rintro e u ⟨rfl, hx⟩; replace h1 := h1.trans (hx.mono h1.size); clear hx
          go_wp2_with fail
          refine (ymd_65535 (HL.out.below h1)).mono ?_
          rintro e u ⟨rfl, hx⟩; replace h1 := h1.trans (hx.mono h1.size); clear hx
          go_wp2_with fail
          go_ret
          exact ⟨rfl, h1⟩
        · obtain ⟨rfl, w3⟩ : n = 2153 - k ∧ 6 < D := by omega
          clear hw
          go_enter Tryd.func10, Tryd.ntmps10
          go_wp2_with fail
          refine (awake_any HL.out).mono ?_
          rintro e u1 ⟨rfl, h1⟩
          go_wp2_with fail
          refine (H1.out _ (HL.out.below h1)).mono ?_
          rintro e u ⟨rfl, hx⟩; replace h1 := h1.trans (hx.mono h1.size); clear hx
          go_wp2_with fail
          refine (H2.out _ (HL.out.below h1)).mono ?_
          rintro e u ⟨rfl, hx⟩; replace h1 := h1.trans (hx.mono h1.size); clear hx
          go_wp2_with fail
          refine (H3.out _ (HL.out.below h1)).mono ?_
          rintro e u ⟨rfl, hx⟩; replace h1 := h1.trans (hx.mono h1.size); clear hx
          go_wp2_with fail
          refine (H4.out _ (HL.out.below h1)).mono ?_
          rintro e u ⟨rfl, hx⟩; replace h1 := h1.trans (hx.mono h1.size); clear hx
          go_wp2_with fail
          refine (month_65535 (HL.out.below h1)).mono ?_
          rintro e u ⟨rfl, hx⟩; replace h1 := h1.trans (hx.mono h1.size); clear hx
          go_wp2_with fail
          refine (ymd_65535 (HL.out.below h1)).mono ?_
          rintro e u ⟨rfl, hx⟩; replace h1 := h1.trans (hx.mono h1.size); clear hx
          go_wp2_with fail
          go_ret
          exact ⟨rfl, h1⟩
  · have ⟨e1, e2, e3, e4, e5, _⟩ := ymd_out h
    rw [e1, e2, e3, e4] at H3
    have ⟨x1, x2⟩ := addV_arg (n := n) h
    rw [x1, x2] at H1
    clear e1 e2 e3 e4 e5 x1 x2 h H4
    generalize addV b n = Y at *
    generalize addE b n = F at *
    go_enter Tryd.func10, Tryd.ntmps10
    go_wp2_with fail
    refine (awake_any HL.out).mono ?_
    rintro e u1 ⟨rfl, h1⟩
    go_wp2_with fail
    refine (H1.out _ (HL.out.below h1)).mono ?_
    rintro e u ⟨rfl, hx⟩; replace h1 := h1.trans (hx.mono h1.size); clear hx
    go_wp2_with fail
    refine (H2.out _ (HL.out.below h1)).mono ?_
    rintro e u ⟨rfl, hx⟩; replace h1 := h1.trans (hx.mono h1.size); clear hx
    go_wp2_with fail
    refine (H3.out _ (HL.out.below h1)).mono ?_
    rintro e u ⟨rfl, hx⟩; replace h1 := h1.trans (hx.mono h1.size); clear hx
    go_wp2_with fail
    go_ret
    exact ⟨rfl, h1⟩
end Go.Proofs.YtmpkjooglpomoaaDoor
