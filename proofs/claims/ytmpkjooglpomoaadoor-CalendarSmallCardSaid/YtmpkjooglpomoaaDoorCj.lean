/- The reference's whole months. -/
import Derived.Test.YtmpkjooglpomoaaDoorCi
namespace Go.Proofs.YtmpkjooglpomoaaDoor
open Go.RowKit Go.Lib

/-- The next month's date, as the reference reckons it. -/
theorem toD_next {a k : Int} (_h0 : 0 ≤ a) : toD a (k + 1) = st k + ml k + (if a - st (mon a) + 1 ≤ ml (k + 1) then a - st (mon a) + 1 else ml (k + 1)) - 1 := by
  have := st_succ k
  unfold toD; split <;> split <;> omega

set_option maxRecDepth 100000 in
set_option maxHeartbeats 2000000 in
theorem rbet_le {a b : Int} (w : World) (ha : IsD a) (hb : IsD b) (hab : a ≤ b) :
    Calls Tryd.prog 44 #[.int .i64 a, .int .i64 b] w fun e w' => e = .returned (.tuple #[.int .i64 (whole a b), .int .i64 0]) ∧ w' = w := by
  have HC := hid (fun w1 => rymd_any a w1)
  have ⟨e1, e2, e3, e4, _, _⟩ := ymd_in ha
  rw [e1, e2, e3, e4] at HC
  clear e1 e2 e3 e4
  have HA := hid ha
  have HB := hid hb
  have ⟨b0, b1⟩ := mon_lt ha.1 ha.2
  have hd := mon_day ha.1
  have hm0 := ml_bd (mon a)
  have hb2 := hb.2
  have hbk := st_bd (k := mon a) b0 (by omega)
  have HU : Hid (∀ n, toD a (mon a + n) ≤ b → b < toD a (mon a + n + 1) → whole a b = n) := fun n h1 h2 => whole_uniq ha.1 hab h1 h2
  have HT0 : Hid (toD a (mon a) = a) := toD_self ha.1
  have HTN : Hid (∀ k, toD a (k + 1) = st k + ml k + (if a - st (mon a) + 1 ≤ ml (k + 1) then a - st (mon a) + 1 else ml (k + 1)) - 1) := fun k => toD_next ha.1
  have HTL : Hid (∀ k, st k ≤ toD a k) := fun k => (toD_bd ha.1 k).1
  obtain ⟨S, hS⟩ : ∃ S, st (mon a) = S := ⟨_, rfl⟩
  obtain ⟨D, hD⟩ : ∃ D, a - S + 1 = D := ⟨_, rfl⟩
  rw [hS, hD] at HC HTN
  rw [hS] at hd hbk
  generalize whole a b = W at *
  generalize hT : toD a = T at *
  generalize mon a = k0 at *
  have d1 : 1 ≤ D := by omega
  have d2 : D ≤ 31 := by omega
  have g : ¬ b < a := by omega
  have ea : a = S + D - 1 := by omega
  have HS := hid hS
  subst ea
  obtain ⟨s0, s1⟩ := hbk
  clear hT ha hb hD hS hd hab hm0
  go_enter Tryd.func44, Tryd.ntmps44
  go_wp2_with (first
    | (go_at_call 55; (with_reducible refine (is_yes _ HA.out).mono ?_); rintro e w' ⟨rfl, rfl⟩)
    | (go_at_call 55; (with_reducible refine (is_yes _ HB.out).mono ?_); rintro e w' ⟨rfl, rfl⟩)
    | (go_at_call 39; refine (HC.out _).mono ?_; rintro e w' ⟨rfl, rfl⟩)
    | fail)
  go_loop [8, 9, 12, 13] (fun y m f c => ∃ n : Int, 0 ≤ n ∧ T (k0 + n) ≤ b ∧ y = .int .i64 (yr (k0 + n)) ∧ m = .int .i64 (mo (k0 + n)) ∧ f = .int .i64 (st (k0 + n)) ∧ c = .int .i64 n) (fun _ _ f _ => (70000 - intOf f).toNat)
  case atStart => exact ⟨0, by omega, by rw [Int.add_zero, HT0.out]; omega, by rw [Int.add_zero], by rw [Int.add_zero], by rw [Int.add_zero, HS.out]; go_num, rfl⟩
  case round =>
    obtain ⟨n, n0, n1, rfl, rfl, rfl, rfl⟩ := hrel
    have eK : k0 + n + 1 = k0 + (n + 1) := by omega
    have hU := HU.out n n1
    have hT1 := HTN.out (k0 + n)
    have hTl := HTL.out (k0 + n)
    have hsu := st_succ (k0 + n)
    have bm := ml_bd (k0 + n)
    have bn := ml_bd (k0 + n + 1)
    have hn0 := st_nn (k := k0 + n) (by omega)
    have hk : k0 + n < 2400 := by have := st_lt (j := 0) (k := k0 + n) (by omega); rw [st_0] at this; omega
    have hy : 1900 ≤ yr (k0 + n) ∧ yr (k0 + n) ≤ 2200 := by unfold yr; omega
    have hm := mo_bd (k0 + n)
    have hnx : (mo (k0 + n) < 12 → yr (k0 + n + 1) = yr (k0 + n) ∧ mo (k0 + n + 1) = mo (k0 + n) + 1) ∧ (mo (k0 + n) = 12 → yr (k0 + n + 1) = yr (k0 + n) + 1 ∧ mo (k0 + n + 1) = 1) := by
      generalize k0 + n = z; unfold mo yr; omega
    have HL : Hid (lenM (yr (k0 + n)) (mo (k0 + n)) = ml (k0 + n)) := rfl
    have HN : Hid (lenM (yr (k0 + n + 1)) (mo (k0 + n + 1)) = ml (k0 + n + 1)) := rfl
    obtain ⟨Y, hY⟩ : ∃ Y, yr (k0 + n) = Y := ⟨_, rfl⟩
    obtain ⟨M, hM⟩ : ∃ M, mo (k0 + n) = M := ⟨_, rfl⟩
    obtain ⟨R, hR⟩ : ∃ R, st (k0 + n) = R := ⟨_, rfl⟩
    obtain ⟨L, hL⟩ : ∃ L, ml (k0 + n) = L := ⟨_, rfl⟩
    obtain ⟨L', hL'⟩ : ∃ L', ml (k0 + n + 1) = L' := ⟨_, rfl⟩
    rw [hY] at hy hnx HL
    rw [hM] at hm hnx HL
    rw [hL] at bm HL hT1 hsu
    rw [hL'] at bn HN hT1
    rw [hR] at hT1 hTl hsu hn0
    rw [hY, hM, hR]
    obtain ⟨hy1, hy2⟩ := hy
    obtain ⟨hm1, hm2⟩ := hm
    obtain ⟨bm1, bm2⟩ := bm
    obtain ⟨bn1, bn2⟩ := bn
    have r2 : R ≤ 65536 := by omega
    have n2 : n ≤ 2400 := by omega
    rw [eK] at hsu hT1 hnx HN hU
    have HSU := hid hsu
    clear hY hM hR hL hL' hsu eK hTl hk
    by_cases h12 : M < 12
    · have ⟨y1, y2⟩ := hnx.1 h12
      rw [y1, y2] at HN
      have HY := hid (And.intro y1 y2)
      clear hnx y1 y2
      by_cases hc : D ≤ L'
      · rw [if_pos hc] at hT1
        rw [hT1] at hU
        by_cases hx : b < R + L + D - 1
        · obtain rfl := hU hx
          clear hT1
          go_wp2_with fail
          refine (rlen_any _ _ _).mono ?_
          rintro e w' ⟨rfl, rfl⟩
          rw [HL.out]
          go_wp2_with fail
          refine (rlen_any _ _ _).mono ?_
          rintro e w' ⟨rfl, rfl⟩
          rw [HN.out]
          go_wp2_with fail
          go_ret2
          exact ⟨rfl, rfl⟩
        · have HT1 := hid hT1
          clear hU hT1
          go_wp2_with fail
          refine (rlen_any _ _ _).mono ?_
          rintro e w' ⟨rfl, rfl⟩
          rw [HL.out]
          go_wp2_with fail
          refine (rlen_any _ _ _).mono ?_
          rintro e w' ⟨rfl, rfl⟩
          rw [HN.out]
          go_wp2_with fail
          go_round
          case rel => exact ⟨n + 1, by omega, by rw [HT1.out]; omega, by rw [HY.out.1], by rw [HY.out.2], by rw [HSU.out], by go_num⟩
          case measure => simp [intOf]; omega
      · rw [if_neg hc] at hT1
        rw [hT1] at hU
        by_cases hx : b < R + L + L' - 1
        · obtain rfl := hU hx
          clear hT1
          go_wp2_with fail
          refine (rlen_any _ _ _).mono ?_
          rintro e w' ⟨rfl, rfl⟩
          rw [HL.out]
          go_wp2_with fail
          refine (rlen_any _ _ _).mono ?_
          rintro e w' ⟨rfl, rfl⟩
          rw [HN.out]
          go_wp2_with fail
          go_ret2
          exact ⟨rfl, rfl⟩
        · have HT1 := hid hT1
          clear hU hT1
          go_wp2_with fail
          refine (rlen_any _ _ _).mono ?_
          rintro e w' ⟨rfl, rfl⟩
          rw [HL.out]
          go_wp2_with fail
          refine (rlen_any _ _ _).mono ?_
          rintro e w' ⟨rfl, rfl⟩
          rw [HN.out]
          go_wp2_with fail
          go_round
          case rel => exact ⟨n + 1, by omega, by rw [HT1.out]; omega, by rw [HY.out.1], by rw [HY.out.2], by rw [HSU.out], by go_num⟩
          case measure => simp [intOf]; omega
    · obtain rfl : M = 12 := by omega
      have ⟨y1, y2⟩ := hnx.2 rfl
      rw [y1, y2] at HN
      have HY := hid (And.intro y1 y2)
      clear hnx y1 y2 h12
      by_cases hc : D ≤ L'
      · rw [if_pos hc] at hT1
        rw [hT1] at hU
        by_cases hx : b < R + L + D - 1
        · obtain rfl := hU hx
          clear hT1
          go_wp2_with fail
          refine (rlen_any _ _ _).mono ?_
          rintro e w' ⟨rfl, rfl⟩
          rw [HL.out]
          go_wp2_with fail
          refine (rlen_any _ _ _).mono ?_
          rintro e w' ⟨rfl, rfl⟩
          rw [HN.out]
          go_wp2_with fail
          go_ret2
          exact ⟨rfl, rfl⟩
        · have HT1 := hid hT1
          clear hU hT1
          go_wp2_with fail
          refine (rlen_any _ _ _).mono ?_
          rintro e w' ⟨rfl, rfl⟩
          rw [HL.out]
          go_wp2_with fail
          refine (rlen_any _ _ _).mono ?_
          rintro e w' ⟨rfl, rfl⟩
          rw [HN.out]
          go_wp2_with fail
          go_round
          case rel => exact ⟨n + 1, by omega, by rw [HT1.out]; omega, by rw [HY.out.1], by rw [HY.out.2], by rw [HSU.out], by go_num⟩
          case measure => simp [intOf]; omega
      · rw [if_neg hc] at hT1
        rw [hT1] at hU
        by_cases hx : b < R + L + L' - 1
        · obtain rfl := hU hx
          clear hT1
          go_wp2_with fail
          refine (rlen_any _ _ _).mono ?_
          rintro e w' ⟨rfl, rfl⟩
          rw [HL.out]
          go_wp2_with fail
          refine (rlen_any _ _ _).mono ?_
          rintro e w' ⟨rfl, rfl⟩
          rw [HN.out]
          go_wp2_with fail
          go_ret2
          exact ⟨rfl, rfl⟩
        · have HT1 := hid hT1
          clear hU hT1
          go_wp2_with fail
          refine (rlen_any _ _ _).mono ?_
          rintro e w' ⟨rfl, rfl⟩
          rw [HL.out]
          go_wp2_with fail
          refine (rlen_any _ _ _).mono ?_
          rintro e w' ⟨rfl, rfl⟩
          rw [HN.out]
          go_wp2_with fail
          go_round
          case rel => exact ⟨n + 1, by omega, by rw [HT1.out]; omega, by rw [HY.out.1], by rw [HY.out.2], by rw [HSU.out], by go_num⟩
          case measure => simp [intOf]; omega

set_option maxRecDepth 100000 in
set_option maxHeartbeats 2000000 in
theorem rbetween_any (a b : Int) (w : World) :
    Calls Tryd.prog 44 #[.int .i64 a, .int .i64 b] w fun e w' => e = .returned (.tuple #[.int .i64 (betV a b), .int .i64 (errDD a b)]) ∧ w' = w := by
  by_cases ha : IsD a
  · have HA := hid ha
    by_cases hb : IsD b
    · have HB := hid hb
      have ⟨e1, e2⟩ := bet_in ha hb
      rw [e1, e2]
      by_cases hc : b < a
      · have HW := hid (fun w1 => rbet_le (a := b) (b := a) w1 hb ha (by omega))
        have b0 := whole_nn hb.1 (show b ≤ a by omega)
        have b1 := whole_up hb.1 (show b ≤ a by omega) ha.2
        rw [if_pos hc]
        generalize whole b a = W at *
        clear e1 e2 ha hb
        go_enter Tryd.func44, Tryd.ntmps44
        go_wp2_with (first
          | (go_at_call 55; (with_reducible refine (is_yes _ HA.out).mono ?_); rintro e w' ⟨rfl, rfl⟩)
          | (go_at_call 55; (with_reducible refine (is_yes _ HB.out).mono ?_); rintro e w' ⟨rfl, rfl⟩)
          | (go_at_call 44; refine (HW.out _).mono ?_; rintro e w' ⟨rfl, rfl⟩)
          | fail)
        go_ret2
        exact ⟨rfl, rfl⟩
      · rw [if_neg hc]
        exact rbet_le w ha hb (by omega)
    · have ⟨e1, e2⟩ := bet_out (a := a) (b := b) (fun g => hb g.2)
      rw [e1, e2]
      have HB := hid hb
      clear e1 e2 ha hb
      go_enter Tryd.func44, Tryd.ntmps44
      go_wp2_with (first
        | (go_at_call 55; (with_reducible refine (is_yes _ HA.out).mono ?_); rintro e w' ⟨rfl, rfl⟩)
        | (go_at_call 55; (with_reducible refine (is_no _ HB.out).mono ?_); rintro e w' ⟨rfl, rfl⟩)
        | fail)
      go_ret2
      exact ⟨rfl, rfl⟩
  · have ⟨e1, e2⟩ := bet_out (a := a) (b := b) (fun g => ha g.1)
    rw [e1, e2]
    have HA := hid ha
    clear e1 e2 ha
    go_enter Tryd.func44, Tryd.ntmps44
    go_wp2_with (first
      | (go_at_call 55; refine (is_no _ HA.out).mono ?_; rintro e w' ⟨rfl, rfl⟩)
      | fail)
    go_ret2
    exact ⟨rfl, rfl⟩

set_option maxRecDepth 100000 in
set_option maxHeartbeats 2000000 in
theorem rage_any (a b : Int) (w : World) :
    Calls Tryd.prog 45 #[.int .i64 a, .int .i64 b] w fun e w' => e = .returned (.tuple #[.int .i64 (ageV a b), .int .i64 (ageE a b)]) ∧ w' = w := by
  by_cases ha : IsD a
  · have HA := hid ha
    by_cases hb : IsD b
    · have HB := hid hb
      by_cases hc : a ≤ b
      · have ⟨e1, e2⟩ := age_in ha hb hc
        rw [e1, e2]
        have HW := hid (fun w1 => rbet_le (a := a) (b := b) w1 ha hb hc)
        have b0 := whole_nn ha.1 hc
        have b1 := whole_up ha.1 hc hb.2
        generalize whole a b = W at *
        clear e1 e2 ha hb
        go_enter Tryd.func45, Tryd.ntmps45
        go_wp2_with (first
          | (go_at_call 55; (with_reducible refine (is_yes _ HA.out).mono ?_); rintro e w' ⟨rfl, rfl⟩)
          | (go_at_call 55; (with_reducible refine (is_yes _ HB.out).mono ?_); rintro e w' ⟨rfl, rfl⟩)
          | (go_at_call 44; refine (HW.out _).mono ?_; rintro e w' ⟨rfl, rfl⟩)
          | fail)
        go_ret2
        exact ⟨rfl, rfl⟩
      · have ⟨e1, e2⟩ := age_out (a := a) (b := b) (fun g => hc g.2.2)
        rw [e1, e2]
        clear e1 e2 ha hb
        go_enter Tryd.func45, Tryd.ntmps45
        go_wp2_with (first
          | (go_at_call 55; (with_reducible refine (is_yes _ HA.out).mono ?_); rintro e w' ⟨rfl, rfl⟩)
          | (go_at_call 55; (with_reducible refine (is_yes _ HB.out).mono ?_); rintro e w' ⟨rfl, rfl⟩)
          | fail)
        go_ret2
        exact ⟨rfl, rfl⟩
    · have ⟨e1, e2⟩ := age_out (a := a) (b := b) (fun g => hb g.2.1)
      rw [e1, e2]
      have HB := hid hb
      clear e1 e2 ha hb
      go_enter Tryd.func45, Tryd.ntmps45
      go_wp2_with (first
        | (go_at_call 55; (with_reducible refine (is_yes _ HA.out).mono ?_); rintro e w' ⟨rfl, rfl⟩)
        | (go_at_call 55; (with_reducible refine (is_no _ HB.out).mono ?_); rintro e w' ⟨rfl, rfl⟩)
        | fail)
      go_ret2
      exact ⟨rfl, rfl⟩
  · have ⟨e1, e2⟩ := age_out (a := a) (b := b) (fun g => ha g.1)
    rw [e1, e2]
    have HA := hid ha
    clear e1 e2 ha
    go_enter Tryd.func45, Tryd.ntmps45
    go_wp2_with (first
      | (go_at_call 55; refine (is_no _ HA.out).mono ?_; rintro e w' ⟨rfl, rfl⟩)
      | fail)
    go_ret2
    exact ⟨rfl, rfl⟩
end Go.Proofs.YtmpkjooglpomoaaDoor
