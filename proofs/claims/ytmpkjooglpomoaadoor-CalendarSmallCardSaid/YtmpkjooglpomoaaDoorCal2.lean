/- The answers of package calendar as plain mathematics. -/
import Derived.Test.YtmpkjooglpomoaaDoorCal
namespace Go.Proofs.YtmpkjooglpomoaaDoor

def IsD (d : Int) : Prop := 0 ≤ d ∧ d < 65536
instance (d : Int) : Decidable (IsD d) := by unfold IsD; infer_instance
/-- The error of a number that has to be a date. -/
def errD (d : Int) : Int := if IsD d then 0 else 2
noncomputable def ymdY (d : Int) : Int := if IsD d then yr (mon d) else 0
noncomputable def ymdM (d : Int) : Int := if IsD d then mo (mon d) else 0
noncomputable def ymdD (d : Int) : Int := if IsD d then d - st (mon d) + 1 else 0
noncomputable def monV (d : Int) : Int := if IsD d then mon d else 0
def wkV (d : Int) : Int := if IsD d then d % 7 + 1 else 0
def IsM (k : Int) : Prop := 0 ≤ k ∧ k < 2154
instance (k : Int) : Decidable (IsM k) := by unfold IsM; infer_instance
def fstV (k : Int) : Int := if IsM k then st k else 0
def fstE (k : Int) : Int := if IsM k then 0 else 2
/-- Whether there is a date with a year, a month and a day. -/
def DayOk (y m d : Int) : Prop := 1900 ≤ y ∧ y ≤ 2079 ∧ 1 ≤ d ∧ d ≤ lenM y m ∧ yd y + cum y m + d ≤ 65536
instance (y m d : Int) : Decidable (DayOk y m d) := by unfold DayOk; infer_instance
def dayV (y m d : Int) : Int := if DayOk y m d then yd y + cum y m + d - 1 else 0
def dayE (y m d : Int) : Int := if DayOk y m d then 0 else 2
/-- The day of the month k that belongs to the date d. -/
noncomputable def toD (d k : Int) : Int := st k + (if d - st (mon d) ≤ ml k - 1 then d - st (mon d) else ml k - 1)
def AddOk (d n : Int) : Prop := IsM (mon d + n) ∧ toD d (mon d + n) < 65536
open Classical in
noncomputable def addV (d n : Int) : Int := if IsD d ∧ AddOk d n then toD d (mon d + n) else 0
open Classical in
noncomputable def addE (d n : Int) : Int := if IsD d then (if AddOk d n then 0 else 30) else 2
/-- The whole months from a to b, which is not earlier. -/
noncomputable def whole (a b : Int) : Int := if toD a (mon b) ≤ b then mon b - mon a else mon b - mon a - 1
def errDD (a b : Int) : Int := if IsD a ∧ IsD b then 0 else 2
noncomputable def betV (a b : Int) : Int := if IsD a ∧ IsD b then (if b < a then - whole b a else whole a b) else 0
noncomputable def ageV (a b : Int) : Int := if IsD a ∧ IsD b ∧ a ≤ b then whole a b / 12 else 0
def ageE (a b : Int) : Int := if IsD a ∧ IsD b ∧ a ≤ b then 0 else 2

theorem yr_bd {k : Int} (h0 : 0 ≤ k) (h : k < 2154) : 1900 ≤ yr k ∧ yr k ≤ 2079 := by unfold yr; omega
theorem mo_bd (k : Int) : 1 ≤ mo k ∧ mo k ≤ 12 := by unfold mo; omega
theorem yrmo (k : Int) : 12 * (yr k - 1900) + mo k - 1 = k := by unfold yr mo; omega
theorem st_nn {k : Int} (h : 0 ≤ k) : 0 ≤ st k := by have := st_lt (j := 0) (k := k) h; rw [st_0] at this; omega
theorem st_bd {k : Int} (h : 0 ≤ k) (h2 : k ≤ 4400) : 0 ≤ st k ∧ st k ≤ 200000 := by
  have := st_lt (j := 0) (k := k) h; have := st_up (j := 0) (k := k) h; rw [st_0] at *; omega
theorem lenM_pos {y m d : Int} (h1 : 1 ≤ d) (h : d ≤ lenM y m) : 1 ≤ m ∧ m ≤ 12 := by
  by_cases g : m < 1 ∨ 12 < m
  · rw [lenM_out y m g] at h; omega
  · omega
theorem yd_bd {y : Int} (h1 : 1900 ≤ y) (h2 : y ≤ 2300) : 0 ≤ yd y ∧ yd y ≤ 150000 := by unfold yd lp; omega
theorem st_yc (k : Int) : st k = yd (yr k) + cum (yr k) (mo k) := rfl
theorem st_of {y m : Int} (h1 : 1 ≤ m) (h2 : m ≤ 12) : st (12 * (y - 1900) + m - 1) = yd y + cum y m := by
  have e1 : yr (12 * (y - 1900) + m - 1) = y := by unfold yr; omega
  have e2 : mo (12 * (y - 1900) + m - 1) = m := by unfold mo; omega
  rw [st_yc, e1, e2]
theorem ml_of {y m : Int} (h1 : 1 ≤ m) (h2 : m ≤ 12) : ml (12 * (y - 1900) + m - 1) = lenM y m := by
  have e1 : yr (12 * (y - 1900) + m - 1) = y := by unfold yr; omega
  have e2 : mo (12 * (y - 1900) + m - 1) = m := by unfold mo; omega
  unfold ml; rw [e1, e2]
theorem mon_day {d : Int} (h0 : 0 ≤ d) : 0 ≤ d - st (mon d) ∧ d - st (mon d) < ml (mon d) := by
  have ⟨a, b, c⟩ := mon_in h0; have := st_succ (mon d); omega
theorem toD_bd {d : Int} (h0 : 0 ≤ d) (k : Int) : st k ≤ toD d k ∧ toD d k < st (k + 1) := by
  have ⟨a, b, c⟩ := mon_in h0; have := st_succ k; have := ml_bd k; unfold toD; split <;> omega
theorem toD_mon {d : Int} (h0 : 0 ≤ d) {k : Int} (hk : 0 ≤ k) : mon (toD d k) = k := mon_eq ⟨hk, toD_bd h0 k⟩
theorem toD_self {d : Int} (h0 : 0 ≤ d) : toD d (mon d) = d := by
  have := mon_day h0; unfold toD; rw [if_pos (by omega)]; omega
theorem toD_lt {d : Int} (h0 : 0 ≤ d) {j k : Int} (h : j < k) : toD d j < toD d k := by
  have := (toD_bd h0 j).2; have := (toD_bd h0 k).1; have := st_lt (j := j + 1) (k := k) (by omega); omega
theorem toD_mono {a b : Int} (h0 : 0 ≤ a) (h : a ≤ b) {n : Int} : toD a (mon a + n) ≤ toD b (mon b + n) := by
  have h1 := mon_mono h0 h
  rcases (by omega : mon a = mon b ∨ mon a < mon b) with e | e
  · rw [e]; unfold toD; rw [e]; split <;> split <;> omega
  · have := (toD_bd h0 (mon a + n)).2; have := (toD_bd (d := b) (by omega) (mon b + n)).1
    have := st_lt (j := mon a + n + 1) (k := mon b + n) (by omega); omega
theorem whole_nn {a b : Int} (h0 : 0 ≤ a) (h : a ≤ b) : 0 ≤ whole a b := by
  have h1 := mon_mono h0 h
  unfold whole
  rcases (by omega : mon a = mon b ∨ mon a < mon b) with e | e
  · rw [← e, if_pos (by rw [toD_self h0]; omega)]; omega
  · split <;> omega
theorem whole_le {a b : Int} (h0 : 0 ≤ a) (h : a ≤ b) : toD a (mon a + whole a b) ≤ b := by
  unfold whole; split
  · rwa [show mon a + (mon b - mon a) = mon b by omega]
  · have := (toD_bd h0 (mon b - 1)).2; have ⟨_, c, _⟩ := mon_in (d := b) (by omega)
    rw [show mon b - 1 + 1 = mon b by omega] at this
    rw [show mon a + (mon b - mon a - 1) = mon b - 1 by omega]; omega
theorem whole_gt {a b : Int} (h0 : 0 ≤ a) (h : a ≤ b) : b < toD a (mon a + whole a b + 1) := by
  unfold whole; split
  · have := (toD_bd h0 (mon b + 1)).1; have ⟨_, _, c⟩ := mon_in (d := b) (by omega)
    rw [show mon a + (mon b - mon a) + 1 = mon b + 1 by omega]; omega
  · rw [show mon a + (mon b - mon a - 1) + 1 = mon b by omega]; omega
theorem whole_uniq {a b n : Int} (h0 : 0 ≤ a) (h : a ≤ b) (h1 : toD a (mon a + n) ≤ b) (h2 : b < toD a (mon a + n + 1)) : whole a b = n := by
  have g1 := whole_le h0 h; have g2 := whole_gt h0 h
  by_cases e : whole a b < n
  · by_cases e2 : whole a b + 1 = n
    · rw [← e2, show mon a + (whole a b + 1) = mon a + whole a b + 1 by omega] at h1; omega
    · have := toD_lt h0 (j := mon a + whole a b + 1) (k := mon a + n) (by omega); omega
  · by_cases e1 : n < whole a b
    · by_cases e2 : n + 1 = whole a b
      · rw [← e2, show mon a + (n + 1) = mon a + n + 1 by omega] at g1; omega
      · have := toD_lt h0 (j := mon a + n + 1) (k := mon a + whole a b) (by omega); omega
    · omega
theorem whole_up {a b : Int} (h0 : 0 ≤ a) (h : a ≤ b) (hb : b < 65536) : whole a b ≤ 2153 := by
  have := mon_lt h0 (by omega); have := mon_lt (d := b) (by omega) hb
  unfold whole; split <;> omega
theorem day_of {d : Int} (h : IsD d) : DayOk (yr (mon d)) (mo (mon d)) (d - st (mon d) + 1) ∧ dayV (yr (mon d)) (mo (mon d)) (d - st (mon d) + 1) = d := by
  obtain ⟨h0, h1⟩ := h
  have ⟨a, b⟩ := mon_lt h0 h1
  have := yr_bd a b
  have hd := mon_day h0
  have e := st_yc (mon d)
  have ok : DayOk (yr (mon d)) (mo (mon d)) (d - st (mon d) + 1) := ⟨by omega, by omega, by omega, by have := hd.2; unfold ml at this; omega, by omega⟩
  exact ⟨ok, by unfold dayV; rw [if_pos ok]; omega⟩
theorem day_mon {y m d : Int} (h : DayOk y m d) : IsD (dayV y m d) ∧ mon (dayV y m d) = 12 * (y - 1900) + m - 1 ∧ yr (mon (dayV y m d)) = y ∧ mo (mon (dayV y m d)) = m ∧ dayV y m d - st (mon (dayV y m d)) + 1 = d := by
  have hm := lenM_pos h.2.2.1 h.2.2.2.1
  have e : dayV y m d = yd y + cum y m + d - 1 := by unfold dayV; rw [if_pos h]
  obtain ⟨h1, h2, h3, h4, h5⟩ := h
  have s := st_of (y := y) hm.1 hm.2
  have s1 := st_succ (12 * (y - 1900) + m - 1)
  rw [ml_of hm.1 hm.2] at s1
  have g : mon (dayV y m d) = 12 * (y - 1900) + m - 1 := mon_eq ⟨by omega, by omega, by omega⟩
  have nn := st_nn (k := 12 * (y - 1900) + m - 1) (by omega)
  refine ⟨⟨by omega, by omega⟩, g, ?_, ?_, ?_⟩
  · rw [g]; unfold yr; omega
  · rw [g]; unfold mo; omega
  · rw [g]; omega
end Go.Proofs.YtmpkjooglpomoaaDoor
