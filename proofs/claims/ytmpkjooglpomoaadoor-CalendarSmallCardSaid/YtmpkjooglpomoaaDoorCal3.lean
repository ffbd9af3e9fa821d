/- The chapter's examples, and the steps from day to day. -/
import Derived.Test.YtmpkjooglpomoaaDoorCal2
namespace Go.Proofs.YtmpkjooglpomoaaDoor

theorem mon_36583 : mon 36583 = 1201 := mon_eq ⟨by decide, by decide, by decide⟩
theorem mon_65535 : mon 65535 = 2153 := mon_eq ⟨by decide, by decide, by decide⟩
theorem mon_30 : mon 30 = 0 := mon_eq ⟨by decide, by decide, by decide⟩
theorem mon_58 : mon 58 = 1 := mon_eq ⟨by decide, by decide, by decide⟩
theorem mon_0 : mon 0 = 0 := mon_eq ⟨by decide, by decide, by decide⟩
theorem ex_day : dayV 2000 2 29 = 36583 ∧ dayE 2000 2 29 = 0 := by decide
theorem ex_day2 : dayE 1900 2 29 = 2 := by decide
theorem toD_at {d k : Int} (k0 : Int) (h : mon d = k0) : toD d k = st k + (if d - st k0 ≤ ml k - 1 then d - st k0 else ml k - 1) := by unfold toD; rw [h]
theorem addV_ok {d n : Int} (h : IsD d) (h2 : IsM (mon d + n)) (h3 : toD d (mon d + n) < 65536) : addV d n = toD d (mon d + n) ∧ addE d n = 0 := by
  unfold addV addE
  rw [if_pos ⟨h, h2, h3⟩, if_pos h, if_pos ⟨h2, h3⟩]; exact ⟨rfl, rfl⟩
theorem addV_no {d n : Int} (h : IsD d) (h2 : ¬ AddOk d n) : addV d n = 0 ∧ addE d n = 30 := by
  unfold addV addE
  rw [if_neg (fun g => h2 g.2), if_pos h, if_neg h2]; exact ⟨rfl, rfl⟩
theorem addV_arg {d n : Int} (h : ¬ IsD d) : addV d n = 0 ∧ addE d n = 2 := by
  unfold addV addE
  rw [if_neg (fun g => h g.1), if_neg h]; exact ⟨rfl, rfl⟩
theorem ex_add : addV 36583 12 = 36948 ∧ addE 36583 12 = 0 := by
  have := addV_ok (d := 36583) (n := 12) (by decide) (by rw [mon_36583]; decide) (by rw [toD_at 1201 mon_36583, mon_36583]; decide)
  rw [toD_at 1201 mon_36583, mon_36583] at this
  exact ⟨this.1.trans (by decide), this.2⟩
theorem ex_sub : addV 36583 (-1) = 36552 ∧ addE 36583 (-1) = 0 := by
  have := addV_ok (d := 36583) (n := -1) (by decide) (by rw [mon_36583]; decide) (by rw [toD_at 1201 mon_36583, mon_36583]; decide)
  rw [toD_at 1201 mon_36583, mon_36583] at this
  exact ⟨this.1.trans (by decide), this.2⟩
theorem ex_late : addE 65535 1 = 30 :=
  (addV_no (d := 65535) (n := 1) (by decide) (by rintro ⟨h, _⟩; rw [mon_65535] at h; exact absurd h (by decide))).2
theorem ex_whole : whole 30 58 = 1 := whole_uniq (by decide) (by decide) (by rw [toD_at 0 mon_30, mon_30]; decide) (by rw [toD_at 0 mon_30, mon_30]; decide)
theorem ex_whole2 : whole 36583 36947 = 11 := whole_uniq (by decide) (by decide) (by rw [toD_at _ mon_36583, mon_36583]; decide) (by rw [toD_at _ mon_36583, mon_36583]; decide)
theorem ex_whole3 : whole 36583 36948 = 12 := whole_uniq (by decide) (by decide) (by rw [toD_at _ mon_36583, mon_36583]; decide) (by rw [toD_at _ mon_36583, mon_36583]; decide)
theorem ex_bet : betV 30 58 = 1 ∧ betV 58 30 = -1 := by
  unfold betV
  rw [if_pos (by decide), if_neg (by decide), if_pos (by decide), if_pos (by decide), ex_whole]; exact ⟨rfl, rfl⟩
theorem ex_age : ageV 36583 36947 = 0 ∧ ageV 36583 36948 = 1 := by
  unfold ageV
  rw [if_pos (by decide), if_pos (by decide), ex_whole2, ex_whole3]; decide
theorem ex_errs : errDD 30 58 = 0 ∧ errDD 58 30 = 0 ∧ ageE 36583 36947 = 0 ∧ ageE 36583 36948 = 0 ∧ errD 36583 = 0 ∧ fstE 1201 = 0 := by decide
theorem ex_mon : monV 36583 = 1201 := by unfold monV; rw [if_pos (by decide)]; exact mon_36583
theorem ex_fst : fstV 1201 = 36555 := by decide
theorem ex_wk : wkV 36583 = 2 := by decide

/-- The day before one that is not the first of its month. -/
theorem mon_pred {d : Int} (h : 0 ≤ d) (h1 : st (mon d) < d) : mon (d - 1) = mon d := by
  have ⟨a, b, c⟩ := mon_in h; exact mon_eq ⟨a, by omega, by omega⟩
/-- The day before the first one of a month. -/
theorem mon_back {d : Int} (h : 0 < d) (h1 : st (mon d) = d) : 1 ≤ mon d ∧ mon (d - 1) = mon d - 1 ∧ d - 1 - st (mon d - 1) + 1 = ml (mon d - 1) := by
  have ⟨a, b, c⟩ := mon_in (d := d) (by omega)
  have hk : 1 ≤ mon d := by
    by_cases e : mon d = 0
    · rw [e, st_0] at h1; omega
    · omega
  have s := st_succ (mon d - 1); have := ml_bd (mon d - 1)
  rw [show mon d - 1 + 1 = mon d by omega] at s
  exact ⟨hk, mon_eq ⟨by omega, by omega, by rw [show mon d - 1 + 1 = mon d by omega]; omega⟩, by omega⟩
theorem ymd_in {d : Int} (h : IsD d) : ymdY d = yr (mon d) ∧ ymdM d = mo (mon d) ∧ ymdD d = d - st (mon d) + 1 ∧ errD d = 0 ∧ monV d = mon d ∧ wkV d = d % 7 + 1 := by
  unfold ymdY ymdM ymdD errD monV wkV; simp [h]
theorem ymd_out {d : Int} (h : ¬ IsD d) : ymdY d = 0 ∧ ymdM d = 0 ∧ ymdD d = 0 ∧ errD d = 2 ∧ monV d = 0 ∧ wkV d = 0 := by
  unfold ymdY ymdM ymdD errD monV wkV; simp [h]
theorem fst_in {k : Int} (h : IsM k) : fstV k = st k ∧ fstE k = 0 := by unfold fstV fstE; simp [h]
theorem fst_out {k : Int} (h : ¬ IsM k) : fstV k = 0 ∧ fstE k = 2 := by unfold fstV fstE; simp [h]
theorem day_in {y m d : Int} (h : DayOk y m d) : dayV y m d = yd y + cum y m + d - 1 ∧ dayE y m d = 0 := by unfold dayV dayE; simp [h]
theorem day_out {y m d : Int} (h : ¬ DayOk y m d) : dayV y m d = 0 ∧ dayE y m d = 2 := by unfold dayV dayE; simp [h]
/-- 97 of 400 successive years are leap years. -/
theorem lp_400 (y : Int) : lp (y + 400) - lp y = 97 := by unfold lp; omega
theorem leap_400 (y : Int) : leapB (y + 400) = leapB y := by
  unfold leapB; rw [show (y + 400) % 4 = y % 4 by omega, show (y + 400) % 100 = y % 100 by omega, show (y + 400) % 400 = y % 400 by omega]
theorem leap_4 {y : Int} (h : leapB y = true) : y % 4 = 0 := (of_decide_eq_true h).1
end Go.Proofs.YtmpkjooglpomoaaDoor
