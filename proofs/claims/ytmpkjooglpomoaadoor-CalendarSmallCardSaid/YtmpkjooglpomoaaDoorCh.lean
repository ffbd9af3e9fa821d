/- The reference's functions about numbers. -/
import Derived.Test.YtmpkjooglpomoaaDoorCg
namespace Go.Proofs.YtmpkjooglpomoaaDoor
open Go.RowKit Go.Lib

set_option maxRecDepth 100000 in
set_option maxHeartbeats 2000000 in
theorem rday_no {y m d : Int} (w : World) (h : y < 1900 ∨ 2079 < y ∨ d < 1 ∨ lenM y m < d) :
    Calls Tryd.prog 16 #[.int .i64 y, .int .i64 m, .int .i64 d] w fun e w' => e = .returned (.tuple #[.int .i64 0, .int .i64 2]) ∧ w' = w := by
  by_cases h1 : y < 1900
  · clear h
    go_enter Tryd.func16, Tryd.ntmps16
    go_wp2_with (go_at_call 20; refine (rlen_any _ _ _).mono ?_; rintro e w' ⟨rfl, rfl⟩)
    go_ret2
    exact ⟨rfl, rfl⟩
  by_cases h2 : 2079 < y
  · clear h
    go_enter Tryd.func16, Tryd.ntmps16
    go_wp2_with (go_at_call 20; refine (rlen_any _ _ _).mono ?_; rintro e w' ⟨rfl, rfl⟩)
    go_ret2
    exact ⟨rfl, rfl⟩
  by_cases h3 : m < 1
  · clear h
    go_enter Tryd.func16, Tryd.ntmps16
    go_wp2_with (go_at_call 20; refine (rlen_any _ _ _).mono ?_; rintro e w' ⟨rfl, rfl⟩)
    go_ret2
    exact ⟨rfl, rfl⟩
  by_cases h4 : 12 < m
  · clear h
    go_enter Tryd.func16, Tryd.ntmps16
    go_wp2_with (go_at_call 20; refine (rlen_any _ _ _).mono ?_; rintro e w' ⟨rfl, rfl⟩)
    go_ret2
    exact ⟨rfl, rfl⟩
  by_cases h5 : d < 1
  · clear h
    go_enter Tryd.func16, Tryd.ntmps16
    go_wp2_with (go_at_call 20; refine (rlen_any _ _ _).mono ?_; rintro e w' ⟨rfl, rfl⟩)
    go_ret2
    exact ⟨rfl, rfl⟩
  obtain ⟨L, hl⟩ : ∃ L, lenM y m = L := ⟨_, rfl⟩
  have HN := hid hl
  have h6 : L < d := by omega
  clear h hl
  go_enter Tryd.func16, Tryd.ntmps16
  go_wp2_with (go_at_call 20; refine (rlen_any _ _ _).mono ?_; rintro e w' ⟨rfl, rfl⟩; rw [HN.out])
  go_ret2
  exact ⟨rfl, rfl⟩

set_option maxRecDepth 100000 in
set_option maxHeartbeats 2000000 in
theorem rday_run {y m d : Int} (w : World) (h1 : 1900 ≤ y) (h2 : y ≤ 2079) (h3 : 1 ≤ d) (h4 : d ≤ lenM y m) :
    Calls Tryd.prog 16 #[.int .i64 y, .int .i64 m, .int .i64 d] w fun e w' => e = .returned (.tuple #[.int .i64 (dayV y m d), .int .i64 (dayE y m d)]) ∧ w' = w := by
  have ⟨m1, m2⟩ := lenM_pos h3 h4
  have hk : DayOk y m d ↔ yd y + cum y m + d ≤ 65536 := ⟨fun h => h.2.2.2.2, fun h => ⟨h1, h2, h3, h4, h⟩⟩
  have HV : Hid ((yd y + cum y m + d ≤ 65536 → dayV y m d = yd y + cum y m + d - 1 ∧ dayE y m d = 0) ∧ (¬ yd y + cum y m + d ≤ 65536 → dayV y m d = 0 ∧ dayE y m d = 2)) :=
    ⟨fun h => day_in (hk.2 h), fun h => day_out (fun g => h (hk.1 g))⟩
  have b3 := lenM_nn y m
  have d31 : d ≤ 31 := by omega
  obtain ⟨L, hl⟩ : ∃ L, lenM y m = L := ⟨_, rfl⟩
  have HN := hid hl
  rw [hl] at h4
  generalize dayV y m d = V at *
  generalize dayE y m d = E at *
  clear hk hl b3
  go_enter Tryd.func16, Tryd.ntmps16
  go_wp2_with (go_at_call 20; refine (rlen_any _ _ _).mono ?_; rintro e w' ⟨rfl, rfl⟩; rw [HN.out])
  go_loop [8, 9] (fun n i => ∃ k : Int, 1900 ≤ k ∧ k ≤ y ∧ i = .int .i64 k ∧ n = .int .i64 (d - 1 + yd k)) (fun _ i => (2079 - intOf i).toNat)
  case atStart => exact ⟨1900, by omega, by omega, rfl, by rw [yd_1900]; go_num⟩
  case round =>
    obtain ⟨k, k1, k2, rfl, rfl⟩ := hrel
    have b1 := yd_bd k1 (by omega)
    by_cases hlt : k < y
    · have hs := yd_succ k
      obtain ⟨A, hA⟩ : ∃ A, d - 1 + yd k = A := ⟨_, rfl⟩
      have a0 : 0 ≤ A := by omega
      have a1 : A ≤ 200000 := by omega
      rw [hA]
      cases hb : leapB k
      · have e : leapI k = 0 := by unfold leapI; rw [if_neg (by simp [hb])]
        have HS : Hid (d - 1 + yd (k + 1) = A + 365) := by show _ = _; rw [hs, e]; omega
        have HB := hid hb
        clear hs hA hb e b1
        go_wp2_with (go_at_call 18; refine (rleap_any _ _).mono ?_; rintro e w' ⟨rfl, rfl⟩; rw [HB.out])
        go_round
        case rel => exact ⟨k + 1, by omega, by omega, rfl, by rw [HS.out]⟩
        case measure => simp [intOf]; omega
      · have e : leapI k = 1 := by unfold leapI; rw [if_pos hb]
        have HS : Hid (d - 1 + yd (k + 1) = A + 365 + 1) := by show _ = _; rw [hs, e]; omega
        have HB := hid hb
        clear hs hA hb e b1
        go_wp2_with (go_at_call 18; refine (rleap_any _ _).mono ?_; rintro e w' ⟨rfl, rfl⟩; rw [HB.out])
        go_round
        case rel => exact ⟨k + 1, by omega, by omega, rfl, by rw [HS.out]⟩
        case measure => simp [intOf]; omega
    · obtain rfl : k = y := by omega
      go_wp2
      go_loop [8, 10] (fun n i => ∃ j : Int, 1 ≤ j ∧ j ≤ m ∧ i = .int .i64 j ∧ n = .int .i64 (d - 1 + yd k + cum k j)) (fun _ i => (12 - intOf i).toNat)
      case atStart => exact ⟨1, by omega, by omega, rfl, by rw [cum_1]; go_num⟩
      case round =>
        obtain ⟨j, j1, j2, rfl, rfl⟩ := hrel
        have b2 := cum_bd k j j1 (by omega)
        obtain ⟨A, hA⟩ : ∃ A, d - 1 + yd k + cum k j = A := ⟨_, rfl⟩
        have a0 : 0 ≤ A := by omega
        have a1 : A ≤ 200000 := by omega
        by_cases hlt2 : j < m
        · have hs := cum_succ k j j1 (by omega)
          have b3 := lenM_nn k j
          rw [hA]
          have HS : Hid (d - 1 + yd k + cum k (j + 1) = A + lenM k j) := by show _ = _; rw [hs]; omega
          clear hs hA b1 b2
          go_wp2_with (go_at_call 20; refine (rlen_any _ _ _).mono ?_; rintro e w' ⟨rfl, rfl⟩)
          go_round
          case rel => exact ⟨j + 1, by omega, by omega, rfl, by rw [HS.out]⟩
          case measure => simp [intOf]; omega
        · obtain rfl : j = m := by omega
          have HA := hid hA
          rw [hA]
          by_cases hc : A < 65536
          · have e := HV.out.1 (by omega)
            obtain ⟨e1, e2⟩ := e
            have e3 : A = V := by omega
            subst e2
            clear b1 b2 e1 hA HV HA
            subst e3
            go_wp2
            go_ret2
            exact ⟨rfl, rfl⟩
          · have e := HV.out.2 (by omega)
            obtain ⟨e1, e2⟩ := e
            subst e1 e2
            clear b1 b2 hA
            go_wp2
            go_ret2
            exact ⟨rfl, rfl⟩

theorem rday_any (y m d : Int) (w : World) :
    Calls Tryd.prog 16 #[.int .i64 y, .int .i64 m, .int .i64 d] w fun e w' => e = .returned (.tuple #[.int .i64 (dayV y m d), .int .i64 (dayE y m d)]) ∧ w' = w := by
  by_cases h : y < 1900 ∨ 2079 < y ∨ d < 1 ∨ lenM y m < d
  · have ⟨e1, e2⟩ := day_out (y := y) (m := m) (d := d) (fun g => by obtain ⟨a, b, c, e, _⟩ := g; omega)
    rw [e1, e2]
    exact rday_no w h
  · exact rday_run w (by omega) (by omega) (by omega) (by omega)

set_option maxRecDepth 100000 in
set_option maxHeartbeats 2000000 in
theorem rymd_any (d : Int) (w : World) :
    Calls Tryd.prog 39 #[.int .i64 d] w fun e w' => e = .returned (.tuple #[.int .i64 (ymdY d), .int .i64 (ymdM d), .int .i64 (ymdD d), .int .i64 (errD d)]) ∧ w' = w := by
  by_cases h : IsD d
  · have ⟨e1, e2, e3, e4, _⟩ := ymd_in h
    rw [e1, e2, e3, e4]
    have HD := hid h
    have d0 := h.1
    have d2 : d ≤ 65535 := by have := h.2; omega
    clear e1 e2 e3 e4 h
    go_enter Tryd.func39, Tryd.ntmps39
    go_wp2_with (go_at_call 55; refine (is_yes _ HD.out).mono ?_; rintro e w' ⟨rfl, rfl⟩)
    go_loop [6, 7, 8] (fun y m l => ∃ k : Int, 0 ≤ k ∧ st k ≤ d ∧ y = .int .i64 (yr k) ∧ m = .int .i64 (mo k) ∧ l = .int .i64 (d - st k)) (fun _ _ l => (intOf l).toNat)
    case atStart => exact ⟨0, by omega, by rw [st_0]; omega, rfl, rfl, by rw [st_0]; go_num⟩
    case round =>
      obtain ⟨k, k0, k1, rfl, rfl, rfl⟩ := hrel
      have bm := ml_bd k
      have hs := st_succ k
      have hn := st_nn k0
      have hk : k < 2400 := by have := st_lt (j := 0) (k := k) k0; rw [st_0] at this; omega
      have hy : 1900 ≤ yr k ∧ yr k ≤ 2200 := by unfold yr; omega
      have hm := mo_bd k
      have HL : Hid (lenM (yr k) (mo k) = ml k) := rfl
      have hnx : (mo k < 12 → yr (k + 1) = yr k ∧ mo (k + 1) = mo k + 1) ∧ (mo k = 12 → yr (k + 1) = yr k + 1 ∧ mo (k + 1) = 1) := by unfold mo yr; omega
      have HM : Hid (d < st (k + 1) → mon d = k) := fun g => mon_eq ⟨k0, k1, g⟩
      have HX := hid hnx
      have H1 := hid hs
      clear hnx
      obtain ⟨Y, hY⟩ : ∃ Y, yr k = Y := ⟨_, rfl⟩
      obtain ⟨M, hM⟩ : ∃ M, mo k = M := ⟨_, rfl⟩
      obtain ⟨S, hS⟩ : ∃ S, st k = S := ⟨_, rfl⟩
      obtain ⟨L, hL⟩ : ∃ L, ml k = L := ⟨_, rfl⟩
      have HY := hid (And.intro hY (And.intro hM hS))
      rw [hY] at hy HL
      rw [hM] at hm HL
      rw [hL] at bm HL hs
      rw [hS] at hs k1 hn
      have HS := hid hs
      rw [hY, hM, hS]
      obtain ⟨hy1, hy2⟩ := hy
      obtain ⟨hm1, hm2⟩ := hm
      obtain ⟨bm1, bm2⟩ := bm
      clear hY hM hS hL hs
      by_cases hc : L ≤ d - S
      · by_cases h12 : M < 12
        · have HE : Hid (yr (k + 1) = Y ∧ mo (k + 1) = M + 1) := by have := HX.out.1 (by rw [HY.out.2.1]; omega); rw [HY.out.1, HY.out.2.1] at this; exact this
          go_wp2_with (go_at_call 20; refine (rlen_any _ _ _).mono ?_; rintro e w' ⟨rfl, rfl⟩; rw [HL.out])
          go_round
          case rel => exact ⟨k + 1, by omega, by rw [HS.out]; omega, by rw [HE.out.1], by rw [HE.out.2], by rw [HS.out]; go_num⟩
          case measure => simp [intOf]; omega
        · obtain rfl : M = 12 := by omega
          have HE : Hid (yr (k + 1) = Y + 1 ∧ mo (k + 1) = 1) := by have := HX.out.2 (by rw [HY.out.2.1]); rw [HY.out.1] at this; exact this
          go_wp2_with (go_at_call 20; refine (rlen_any _ _ _).mono ?_; rintro e w' ⟨rfl, rfl⟩; rw [HL.out])
          go_round
          case rel => exact ⟨k + 1, by omega, by rw [HS.out]; omega, by rw [HE.out.1], by rw [HE.out.2], by rw [HS.out]; go_num⟩
          case measure => simp [intOf]; omega
      · have HE := hid (HM.out (by rw [HS.out]; omega))
        go_wp2_with (go_at_call 20; refine (rlen_any _ _ _).mono ?_; rintro e w' ⟨rfl, rfl⟩; rw [HL.out])
        exact bodyPost_ret (v := .tuple #[.int .i64 Y, .int .i64 M, .int .i64 (d - S + 1), .int .i64 0]) (by simp [results, Tryd.results39, go_sem]) rfl ⟨by rw [HE.out, HY.out.1, HY.out.2.1, HY.out.2.2], rfl⟩
  · have ⟨e1, e2, e3, e4, _⟩ := ymd_out h
    rw [e1, e2, e3, e4]
    have HD := hid h
    clear e1 e2 e3 e4 h
    go_enter Tryd.func39, Tryd.ntmps39
    go_wp2_with (go_at_call 55; refine (is_no _ HD.out).mono ?_; rintro e w' ⟨rfl, rfl⟩)
    exact bodyPost_ret (v := .tuple #[.int .i64 0, .int .i64 0, .int .i64 0, .int .i64 2]) (by simp [results, Tryd.results39, go_sem]) rfl ⟨rfl, rfl⟩
end Go.Proofs.YtmpkjooglpomoaaDoor
