/- The exported functions of package calendar that are about numbers. -/
import Derived.Test.YtmpkjooglpomoaaDoorCe
namespace Go.Proofs.YtmpkjooglpomoaaDoor
open Go.RowKit Go.Lib

theorem if_err {p : Prop} [Decidable p] (h : p) (a b : Int) : (if p then a else b) = a := if_pos h

set_option maxRecDepth 100000 in
set_option maxHeartbeats 2000000 in
theorem day_ok {y m d : Int} {w : World} (hL : Laid w) (h : DayOk y m d) :
    Calls Tryd.prog 15 #[.int .i64 y, .int .i64 m, .int .i64 d] w fun e w' => e = .returned (.tuple #[.int .i64 (dayV y m d), .int .i64 0]) ∧ Below w.heap.size w w' := by
  have ⟨hv, _⟩ := day_in h
  obtain ⟨h1, h2, h3, h4, h5⟩ := h
  have ⟨m1, m2⟩ := lenM_pos h3 h4
  have hs := st_of (y := y) m1 m2
  have b1 := yd_bd h1 (by omega)
  have b2 := cum_bd y m m1 (by omega)
  obtain ⟨D, hD⟩ : ∃ D, yd y + cum y m = D := ⟨_, rfl⟩
  rw [hD] at hs hv h5
  have D0 : 0 ≤ D := by omega
  have HS := hid hs
  have HL := hid hL
  obtain ⟨L, hl⟩ : ∃ L, lenM y m = L := ⟨_, rfl⟩
  have HN := hid hl
  rw [hl] at h4
  rw [hv]
  clear hv hs hL b1 b2 hD hl
  go_enter Tryd.func15, Tryd.ntmps15
  go_wp2_with (first
    | (go_at_call 19; refine (len_any _ _ HL.out).mono ?_; rintro e w' ⟨rfl, rfl⟩; rw [HN.out])
    | (go_at_call 37; refine (monthOf_any _ _ _ (by omega) (by omega) (by omega) (by omega)).mono ?_; rintro e w' ⟨rfl, rfl⟩)
    | (go_at_call 36; refine (start_any _ HL.out (by omega) (by omega)).mono ?_; rintro e w' ⟨rfl, rfl⟩; rw [HS.out])
    | (go_at_call 38; refine (isd_yes _ ⟨by omega, by omega⟩).mono ?_; rintro e w' ⟨rfl, rfl⟩)
    | fail)
  go_ret2
  exact ⟨rfl, Below.refl _ _⟩

set_option maxRecDepth 100000 in
set_option maxHeartbeats 2000000 in
theorem day_no {y m d : Int} {w : World} (hL : Laid w) (h : ¬ DayOk y m d) (hd : d ≤ 9223372036854775807) :
    Calls Tryd.prog 15 #[.int .i64 y, .int .i64 m, .int .i64 d] w fun e w' => e = .returned (.tuple #[.int .i64 0, .int .i64 2]) ∧ Below w.heap.size w w' := by
  have HL := hid hL
  by_cases h1 : y < 1900
  · clear h hL
    go_enter Tryd.func15, Tryd.ntmps15
    go_wp2_with (go_at_call 19; refine (len_any _ _ HL.out).mono ?_; rintro e w' ⟨rfl, rfl⟩)
    go_ret2
    exact ⟨rfl, Below.refl _ _⟩
  by_cases h2 : 2079 < y
  · clear h hL
    go_enter Tryd.func15, Tryd.ntmps15
    go_wp2_with (go_at_call 19; refine (len_any _ _ HL.out).mono ?_; rintro e w' ⟨rfl, rfl⟩)
    go_ret2
    exact ⟨rfl, Below.refl _ _⟩
  by_cases h3 : d < 1
  · clear h hL
    go_enter Tryd.func15, Tryd.ntmps15
    go_wp2_with (go_at_call 19; refine (len_any _ _ HL.out).mono ?_; rintro e w' ⟨rfl, rfl⟩)
    go_ret2
    exact ⟨rfl, Below.refl _ _⟩
  obtain ⟨L, hl⟩ : ∃ L, lenM y m = L := ⟨_, rfl⟩
  have HN := hid hl
  by_cases h4 : L < d
  · clear h hL hl
    go_enter Tryd.func15, Tryd.ntmps15
    go_wp2_with (go_at_call 19; refine (len_any _ _ HL.out).mono ?_; rintro e w' ⟨rfl, rfl⟩; rw [HN.out])
    go_ret2
    exact ⟨rfl, Below.refl _ _⟩
  have ⟨m1, m2⟩ := lenM_pos (y := y) (m := m) (d := d) (by omega) (by omega)
  have hs := st_of (y := y) m1 m2
  have b1 := yd_bd (y := y) (by omega) (by omega)
  have b2 := cum_bd y m m1 (by omega)
  have b3 := lenM_nn y m
  obtain ⟨D, hD⟩ : ∃ D, yd y + cum y m = D := ⟨_, rfl⟩
  rw [hD] at hs
  have D0 : 0 ≤ D := by omega
  have D1 : D ≤ 200000 := by omega
  have D2 : ¬ D + d ≤ 65536 := fun g => h ⟨by omega, by omega, by omega, by omega, by omega⟩
  have HS := hid hs
  have d31 : d ≤ 31 := by omega
  clear hs hL b1 b2 b3 hD hl h
  go_enter Tryd.func15, Tryd.ntmps15
  go_wp2_with (first
    | (go_at_call 19; refine (len_any _ _ HL.out).mono ?_; rintro e w' ⟨rfl, rfl⟩; rw [HN.out])
    | (go_at_call 37; refine (monthOf_any _ _ _ (by omega) (by omega) (by omega) (by omega)).mono ?_; rintro e w' ⟨rfl, rfl⟩)
    | (go_at_call 36; refine (start_any _ HL.out (by omega) (by omega)).mono ?_; rintro e w' ⟨rfl, rfl⟩; rw [HS.out])
    | (go_at_call 38; refine (isd_no _ (fun g => by have := g.2; omega)).mono ?_; rintro e w' ⟨rfl, rfl⟩)
    | fail)
  go_ret2
  exact ⟨rfl, Below.refl _ _⟩

theorem day_any (y m d : Int) {w : World} (hL : Laid w) (hd : d ≤ 9223372036854775807) :
    Calls Tryd.prog 15 #[.int .i64 y, .int .i64 m, .int .i64 d] w fun e w' => e = .returned (.tuple #[.int .i64 (dayV y m d), .int .i64 (dayE y m d)]) ∧ Below w.heap.size w w' := by
  by_cases h : DayOk y m d
  · rw [(day_in h).2]; exact day_ok hL h
  · rw [(day_out h).1, (day_out h).2]; exact day_no hL h hd

set_option maxRecDepth 100000 in
set_option maxHeartbeats 2000000 in
theorem ymd_any (d : Int) {w : World} (hL : Laid w) :
    Calls Tryd.prog 28 #[.int .i64 d] w fun e w' => e = .returned (.tuple #[.int .i64 (ymdY d), .int .i64 (ymdM d), .int .i64 (ymdD d), .int .i64 (errD d)]) ∧ Below w.heap.size w w' := by
  have HL := hid hL
  by_cases h : IsD d
  · have ⟨e1, e2, e3, e4, _⟩ := ymd_in h
    rw [e1, e2, e3, e4]
    have HD := hid h
    have ⟨b0, b1⟩ := mon_lt h.1 h.2
    have ⟨d0, d1⟩ := mon_day h.1
    have bm := ml_bd (mon d)
    have bk := st_bd (k := mon d) b0 (by omega)
    have d2 : d ≤ 65535 := by have := h.2; omega
    have HC := hid (fun w1 (h1 : Laid w1) => find_any h1 h)
    obtain ⟨k, hk⟩ : ∃ k, mon d = k := ⟨_, rfl⟩
    rw [hk] at HC b0 b1 d0 d1 bk bm
    rw [hk]
    obtain ⟨S, hS⟩ : ∃ S, st k = S := ⟨_, rfl⟩
    have HS := hid hS
    rw [hS] at bk d0 d1
    rw [hS]
    obtain ⟨bk0, bk1⟩ := bk
    clear e1 e2 e3 e4 hk h hL hS
    go_enter Tryd.func28, Tryd.ntmps28
    go_wp2_with (first
      | (go_at_call 38; refine (isd_yes _ HD.out).mono ?_; rintro e w' ⟨rfl, rfl⟩)
      | (go_at_call 48; refine (HC.out _ HL.out).mono ?_; rintro e w1 ⟨rfl, hb⟩; have HL1 := hid (HL.out.below hb))
      | (go_at_call 49; refine (yam_any _ _ (by omega) (by omega)).mono ?_; rintro e w' ⟨rfl, rfl⟩)
      | (go_at_call 36; refine (start_any _ HL1.out (by omega) (by omega)).mono ?_; rintro e w' ⟨rfl, rfl⟩; rw [HS.out])
      | fail)
    exact bodyPost_ret (v := .tuple #[.int .i64 (yr k), .int .i64 (mo k), .int .i64 (d - S + 1), .int .i64 0]) (by simp [results, Tryd.results28, go_sem]) rfl ⟨rfl, hb⟩
  · have ⟨e1, e2, e3, e4, _⟩ := ymd_out h
    rw [e1, e2, e3, e4]
    have HD := hid h
    clear e1 e2 e3 e4 h hL
    go_enter Tryd.func28, Tryd.ntmps28
    go_wp2_with (go_at_call 38; refine (isd_no _ HD.out).mono ?_; rintro e w' ⟨rfl, rfl⟩)
    exact bodyPost_ret (v := .tuple #[.int .i64 0, .int .i64 0, .int .i64 0, .int .i64 2]) (by simp [results, Tryd.results28, go_sem]) rfl ⟨rfl, Below.refl _ _⟩
end Go.Proofs.YtmpkjooglpomoaaDoor
