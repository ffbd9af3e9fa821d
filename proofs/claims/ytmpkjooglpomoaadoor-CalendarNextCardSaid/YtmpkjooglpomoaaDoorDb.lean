/- CalendarNext's function returns true. -/
import Derived.Test.YtmpkjooglpomoaaDoorCm
namespace Go.Proofs.YtmpkjooglpomoaaDoor
open Go.RowKit Go.Lib

theorem wk_next (day : Int) : day % 7 + 1 = ((day - 1) % 7 + 1) % 7 + 1 := by omega

set_option maxRecDepth 100000 in
set_option maxHeartbeats 2000000 in
theorem next_law (day : Int) {w : World} (hL : Laid w) :
    Calls Tryd.prog 8 #[.int .i64 day] w fun e w' => e = .returned (.bool true) ∧ Below w.heap.size w w' := by
  have HL := hid hL
  have HA := hid (fun w1 (h1 : Laid w1) => awake_any h1)
  have H1 := hid (fun w1 (h1 : Laid w1) => ymd_any day h1)
  have H2 := hid (fun w1 => weekday_any day w1)
  have H3 := hid (fun w1 (h1 : Laid w1) => month_any day h1)
  clear hL
  by_cases h : IsD day
  · have ⟨e1, e2, e3, e4, e5, e6⟩ := ymd_in h
    rw [e1, e2, e3, e4] at H1
    rw [e6, e4, wk_next] at H2
    rw [e5, e4] at H3
    have ⟨b0, b1⟩ := mon_lt h.1 h.2
    have hy := yr_bd b0 b1
    have hm := mo_bd (mon day)
    have hd := mon_day h.1
    have hv := day_of h
    have hn : Hid (0 < day → (st (mon day) < day → mon (day - 1) = mon day) ∧ (st (mon day) = day → 1 ≤ mon day ∧ mon (day - 1) = mon day - 1 ∧ day - 1 - st (mon day - 1) + 1 = ml (mon day - 1))) :=
      fun g => ⟨fun g1 => mon_pred h.1 g1, fun g1 => mon_back g g1⟩
    have h4 := hid (fun w1 (h1 : Laid w1) => day_any (yr (mon day)) (mo (mon day)) (day - st (mon day) + 1) h1 (by have := h.2; have := hd.1; have := st_nn b0; omega))
    rw [hv.2, (day_in hv.1).2] at h4
    have h5 := hid (fun w1 (h1 : Laid w1) => first_any (mon day) h1)
    rw [(fst_in ⟨b0, b1⟩).1, (fst_in ⟨b0, b1⟩).2] at h5
    have h6 := hid (fun w1 (h1 : Laid w1) => len_any (yr (mon day)) (mo (mon day)) h1)
    have hz : day = 0 → mon day = 0 := fun e => by rw [e]; exact mon_0
    obtain ⟨h0, h65⟩ := h
    clear e1 e2 e3 e4 e5 e6 hv
    obtain ⟨D, hD⟩ : ∃ D, day - st (mon day) + 1 = D := ⟨_, rfl⟩
    have hS : st (mon day) = day - D + 1 := by omega
    rw [hD] at H1 h4
    rw [hS] at h5
    have hl : D ≤ lenM (yr (mon day)) (mo (mon day)) := by have : ml (mon day) = lenM (yr (mon day)) (mo (mon day)) := rfl; omega
    have hL31 := lenM_nn (yr (mon day)) (mo (mon day))
    have D1 : 1 ≤ D := by omega
    rw [hS] at hn
    obtain ⟨V, hV⟩ : ∃ V, (day - 1) % 7 + 1 = V := ⟨_, rfl⟩
    have V1 : 1 ≤ V ∧ V ≤ 7 := by omega
    rw [hV] at H2
    obtain ⟨V0, V7⟩ := V1
    have g1 : ¬ day < 0 := by omega
    by_cases hz0 : day = 0
    · have hk := hz hz0
      rw [hk] at H1 H3 h4 h5 h6 hS hl
      obtain rfl : D = 1 := by rw [st_0] at hS; omega
      obtain rfl : V = 7 := by omega
      subst hz0
      have ey : yr 0 = 1900 := rfl
      have em : mo 0 = 1 := rfl
      rw [ey, em] at H1 h4 h6 hl
      generalize lenM 1900 1 = L at *
      clear hz hn hS hD hV hk hy hm hd hL31
      go_enter Tryd.func8, Tryd.ntmps8
      go_wp2_with (first
        | (go_at_call 21; refine (HA.out _ HL.out).mono ?_; rintro e u1 ⟨rfl, h1⟩)
        | (go_at_call 28; refine (H1.out _ (HL.out.below h1)).mono ?_; rintro e u ⟨rfl, hx⟩; replace h1 := h1.trans (hx.mono h1.size); clear hx)
        | (go_at_call 29; refine (H2.out _).mono ?_; rintro e u ⟨rfl, hx⟩; replace h1 := h1.trans (hx.mono h1.size); clear hx)
        | (go_at_call 30; refine (H3.out _ (HL.out.below h1)).mono ?_; rintro e u ⟨rfl, hx⟩; replace h1 := h1.trans (hx.mono h1.size); clear hx)
        | (go_at_call 15; refine (h4.out _ (HL.out.below h1)).mono ?_; rintro e u ⟨rfl, hx⟩; replace h1 := h1.trans (hx.mono h1.size); clear hx)
        | (go_at_call 31; refine (h5.out _ (HL.out.below h1)).mono ?_; rintro e u ⟨rfl, hx⟩; replace h1 := h1.trans (hx.mono h1.size); clear hx)
        | (go_at_call 19; refine (h6.out _ (HL.out.below h1)).mono ?_; rintro e u ⟨rfl, rfl⟩)
        | fail)
      go_ret
      exact ⟨rfl, h1⟩
    · have hpos : 0 < day := by omega
      have ⟨hn1, hn2⟩ := hn.out hpos
      have hp : IsD (day - 1) := ⟨by omega, by omega⟩
      have ⟨e1, e2, e3, e4, e5, e6⟩ := ymd_in hp
      have H4 := hid (fun w1 (h1 : Laid w1) => ymd_any (day - 1) h1)
      have H5 := hid (fun w1 => weekday_any (day - 1) w1)
      have H6 := hid (fun w1 (h1 : Laid w1) => month_any (day - 1) h1)
      rw [e1, e2, e3, e4] at H4
      rw [e6, e4, hV] at H5
      rw [e5, e4] at H6
      clear e1 e2 e3 e4 e5 e6 hn hz hp hD hV hd
      by_cases hc : 1 < D
      · have ek := hn1 (by omega)
        rw [ek] at H4 H6
        rw [hS, show day - 1 - (day - D + 1) + 1 = D - 1 by omega] at H4
        clear ek hn1 hn2 hS
        generalize lenM (yr (mon day)) (mo (mon day)) = L at *
        generalize yr (mon day) = Y at *
        generalize mo (mon day) = M at *
        generalize mon day = k at *
        obtain ⟨hm1, hm2⟩ := hm
        obtain ⟨hy1, hy2⟩ := hy
        obtain ⟨l1, l2⟩ := hL31
        go_enter Tryd.func8, Tryd.ntmps8
        go_wp2_with fail
        refine (HA.out _ HL.out).mono ?_
        rintro e u1 ⟨rfl, h1⟩
        go_wp2_with fail
        refine (H1.out _ (HL.out.below h1)).mono ?_
        rintro e u ⟨rfl, hx⟩; replace h1 := h1.trans (hx.mono h1.size); clear hx
        go_wp2_with fail
        refine (H2.out _).mono ?_
        rintro e u ⟨rfl, hx⟩; replace h1 := h1.trans (hx.mono h1.size); clear hx
        go_wp2_with fail
        refine (H3.out _ (HL.out.below h1)).mono ?_
        rintro e u ⟨rfl, hx⟩; replace h1 := h1.trans (hx.mono h1.size); clear hx
        go_wp2_with fail
        refine (h4.out _ (HL.out.below h1)).mono ?_
        rintro e u ⟨rfl, hx⟩; replace h1 := h1.trans (hx.mono h1.size); clear hx
        go_wp2_with fail
        refine (h5.out _ (HL.out.below h1)).mono ?_
        rintro e u ⟨rfl, hx⟩; replace h1 := h1.trans (hx.mono h1.size); clear hx
        go_wp2_with fail
        refine (h6.out _ (HL.out.below h1)).mono ?_
        rintro e u ⟨rfl, rfl⟩
        go_wp2_with fail
        refine (H4.out _ (HL.out.below h1)).mono ?_
        rintro e u ⟨rfl, hx⟩; replace h1 := h1.trans (hx.mono h1.size); clear hx
        go_wp2_with fail
        refine (H5.out _).mono ?_
        rintro e u ⟨rfl, hx⟩; replace h1 := h1.trans (hx.mono h1.size); clear hx
        go_wp2_with fail
        refine (H6.out _ (HL.out.below h1)).mono ?_
        rintro e u ⟨rfl, hx⟩; replace h1 := h1.trans (hx.mono h1.size); clear hx
        go_wp2_with fail
        go_ret
        exact ⟨rfl, h1⟩
      · obtain rfl : D = 1 := by omega
        have ⟨hk1, ek, hml⟩ := hn2 (by omega)
        rw [ek] at H4 H6
        rw [hml] at H4
        have bY : ∀ k, k % 12 = 0 → yr (k - 1) = yr k - 1 ∧ mo (k - 1) = 12 ∧ mo k = 1 := fun k h => by unfold yr mo; omega
        have bM : ∀ k, k % 12 ≠ 0 → yr (k - 1) = yr k ∧ mo (k - 1) = mo k - 1 ∧ 1 < mo k := fun k h => by unfold yr mo; omega
        have hmk : ml (mon day - 1) = lenM (yr (mon day - 1)) (mo (mon day - 1)) := rfl
        rw [hmk] at H4
        clear ek hn1 hn2 hS hml hmk
        obtain ⟨hm1, hm2⟩ := hm
        obtain ⟨hy1, hy2⟩ := hy
        obtain ⟨l1, l2⟩ := hL31
        generalize lenM (yr (mon day)) (mo (mon day)) = L at *
        by_cases hc2 : mon day % 12 = 0
        · have ⟨y1, y2, y3⟩ := bY _ hc2
          rw [y1, y2, show lenM (yr (mon day) - 1) 12 = 31 from rfl] at H4
          rw [y3] at H1 h4 h6
          clear y1 y2 y3 bY bM hm1 hm2 hc2
          generalize yr (mon day) = Y at *
          generalize mon day = k at *
          go_enter Tryd.func8, Tryd.ntmps8
          go_wp2_with fail
          refine (HA.out _ HL.out).mono ?_
          rintro e u1 ⟨rfl, h1⟩
          go_wp2_with fail
          refine (H1.out _ (HL.out.below h1)).mono ?_
          rintro e u ⟨rfl, hx⟩; replace h1 := h1.trans (hx.mono h1.size); clear hx
          go_wp2_with fail
          refine (H2.out _).mono ?_
          rintro e u ⟨rfl, hx⟩; replace h1 := h1.trans (hx.mono h1.size); clear hx
          go_wp2_with fail
          refine (H3.out _ (HL.out.below h1)).mono ?_
          rintro e u ⟨rfl, hx⟩; replace h1 := h1.trans (hx.mono h1.size); clear hx
          go_wp2_with fail
          refine (h4.out _ (HL.out.below h1)).mono ?_
          rintro e u ⟨rfl, hx⟩; replace h1 := h1.trans (hx.mono h1.size); clear hx
          go_wp2_with fail
          refine (h5.out _ (HL.out.below h1)).mono ?_
          rintro e u ⟨rfl, hx⟩; replace h1 := h1.trans (hx.mono h1.size); clear hx
          go_wp2_with fail
          refine (h6.out _ (HL.out.below h1)).mono ?_
          rintro e u ⟨rfl, rfl⟩
          go_wp2_with fail
          refine (H4.out _ (HL.out.below h1)).mono ?_
          rintro e u ⟨rfl, hx⟩; replace h1 := h1.trans (hx.mono h1.size); clear hx
          go_wp2_with fail
          refine (H5.out _).mono ?_
          rintro e u ⟨rfl, hx⟩; replace h1 := h1.trans (hx.mono h1.size); clear hx
          go_wp2_with fail
          refine (H6.out _ (HL.out.below h1)).mono ?_
          rintro e u ⟨rfl, hx⟩; replace h1 := h1.trans (hx.mono h1.size); clear hx
          go_wp2_with fail
          go_ret
          exact ⟨rfl, h1⟩
        · have ⟨y1, y2, y3⟩ := bM _ hc2
          rw [y1, y2] at H4
          have h7 := hid (fun w1 (h1 : Laid w1) => len_any (yr (mon day)) (mo (mon day) - 1) h1)
          generalize lenM (yr (mon day)) (mo (mon day) - 1) = L2 at *
          clear y1 y2 bY bM hc2
          generalize yr (mon day) = Y at *
          generalize mo (mon day) = M at *
          generalize mon day = k at *
          go_enter Tryd.func8, Tryd.ntmps8
          go_wp2_with fail
          refine (HA.out _ HL.out).mono ?_
          rintro e u1 ⟨rfl, h1⟩
          go_wp2_with fail
          refine (H1.out _ (HL.out.below h1)).mono ?_
          rintro e u ⟨rfl, hx⟩; replace h1 := h1.trans (hx.mono h1.size); clear hx
          go_wp2_with fail
          refine (H2.out _).mono ?_
          rintro e u ⟨rfl, hx⟩; replace h1 := h1.trans (hx.mono h1.size); clear hx
          go_wp2_with fail
          refine (H3.out _ (HL.out.below h1)).mono ?_
          rintro e u ⟨rfl, hx⟩; replace h1 := h1.trans (hx.mono h1.size); clear hx
          go_wp2_with fail
          refine (h4.out _ (HL.out.below h1)).mono ?_
          rintro e u ⟨rfl, hx⟩; replace h1 := h1.trans (hx.mono h1.size); clear hx
          go_wp2_with fail
          refine (h5.out _ (HL.out.below h1)).mono ?_
          rintro e u ⟨rfl, hx⟩; replace h1 := h1.trans (hx.mono h1.size); clear hx
          go_wp2_with fail
          refine (h6.out _ (HL.out.below h1)).mono ?_
          rintro e u ⟨rfl, rfl⟩
          go_wp2_with fail
          refine (H4.out _ (HL.out.below h1)).mono ?_
          rintro e u ⟨rfl, hx⟩; replace h1 := h1.trans (hx.mono h1.size); clear hx
          go_wp2_with fail
          refine (H5.out _).mono ?_
          rintro e u ⟨rfl, hx⟩; replace h1 := h1.trans (hx.mono h1.size); clear hx
          go_wp2_with fail
          refine (H6.out _ (HL.out.below h1)).mono ?_
          rintro e u ⟨rfl, hx⟩; replace h1 := h1.trans (hx.mono h1.size); clear hx
          go_wp2_with fail
          refine (h7.out _ (HL.out.below h1)).mono ?_
          rintro e u ⟨rfl, rfl⟩
          go_wp2_with fail
          go_ret
          exact ⟨rfl, h1⟩
  · have ⟨e1, e2, e3, e4, e5, e6⟩ := ymd_out h
    rw [e1, e2, e3, e4] at H1
    rw [e6, e4] at H2
    rw [e5, e4] at H3
    clear e1 e2 e3 e4 e5 e6
    by_cases g : day < 0
    · clear h
      go_enter Tryd.func8, Tryd.ntmps8
      go_wp2_with fail
      refine (HA.out _ HL.out).mono ?_
      rintro e u1 ⟨rfl, h1⟩
      go_wp2_with fail
      refine (H1.out _ (HL.out.below h1)).mono ?_
      rintro e u ⟨rfl, hx⟩; replace h1 := h1.trans (hx.mono h1.size); clear hx
      go_wp2_with fail
      refine (H2.out _).mono ?_
      rintro e u ⟨rfl, hx⟩; replace h1 := h1.trans (hx.mono h1.size); clear hx
      go_wp2_with fail
      refine (H3.out _ (HL.out.below h1)).mono ?_
      rintro e u ⟨rfl, hx⟩; replace h1 := h1.trans (hx.mono h1.size); clear hx
      go_wp2_with fail
      go_ret
      exact ⟨rfl, h1⟩
    · have g2 : ¬ day < 65536 := fun g1 => h ⟨by omega, g1⟩
      clear h
      go_enter Tryd.func8, Tryd.ntmps8
      go_wp2_with fail
      refine (HA.out _ HL.out).mono ?_
      rintro e u1 ⟨rfl, h1⟩
      go_wp2_with fail
      refine (H1.out _ (HL.out.below h1)).mono ?_
      rintro e u ⟨rfl, hx⟩; replace h1 := h1.trans (hx.mono h1.size); clear hx
      go_wp2_with fail
      refine (H2.out _).mono ?_
      rintro e u ⟨rfl, hx⟩; replace h1 := h1.trans (hx.mono h1.size); clear hx
      go_wp2_with fail
      refine (H3.out _ (HL.out.below h1)).mono ?_
      rintro e u ⟨rfl, hx⟩; replace h1 := h1.trans (hx.mono h1.size); clear hx
      go_wp2_with fail
      go_ret
      exact ⟨rfl, h1⟩
end Go.Proofs.YtmpkjooglpomoaaDoor
