/- The calendar as plain mathematics: leap years, lengths of months, days before a month. -/
namespace Go.Proofs.YtmpkjooglpomoaaDoor

/-- Whether a year is a leap year. -/
def leapB (y : Int) : Bool := decide (y % 4 = 0 ∧ (y % 100 ≠ 0 ∨ y % 400 = 0))
/-- 1 for a leap year, 0 for another one. -/
def leapI (y : Int) : Int := if leapB y = true then 1 else 0
/-- The days of a month of a year. -/
def lenM (y m : Int) : Int :=
  if m = 2 then 28 + leapI y else if m = 4 ∨ m = 6 ∨ m = 9 ∨ m = 11 then 30 else if 1 ≤ m ∧ m ≤ 12 then 31 else 0
/-- The leap years from 1 to the one before a year. -/
def lp (y : Int) : Int := (y - 1) / 4 - (y - 1) / 100 + (y - 1) / 400
/-- The days from 1900 on before a year. -/
def yd (y : Int) : Int := 365 * (y - 1900) + lp y - 460
/-- The days of a year before a month. -/
def cum (y m : Int) : Int :=
  if m ≤ 1 then 0 else if m = 2 then 31 else
  leapI y + (if m = 3 then 59 else if m = 4 then 90 else if m = 5 then 120 else if m = 6 then 151 else if m = 7 then 181 else
    if m = 8 then 212 else if m = 9 then 243 else if m = 10 then 273 else if m = 11 then 304 else if m = 12 then 334 else 365)
def yr (k : Int) : Int := 1900 + k / 12
def mo (k : Int) : Int := k % 12 + 1
/-- The days of the month with a number. -/
def ml (k : Int) : Int := lenM (yr k) (mo k)
/-- The days before the month with a number. -/
def st (k : Int) : Int := yd (yr k) + cum (yr k) (mo k)

theorem leapI_01 (y : Int) : 0 ≤ leapI y ∧ leapI y ≤ 1 := by unfold leapI; split <;> omega
theorem lp_succ (y : Int) : lp (y + 1) = lp y + leapI y := by
  unfold lp leapI leapB
  by_cases h : y % 4 = 0 ∧ (y % 100 ≠ 0 ∨ y % 400 = 0)
  · rw [if_pos (decide_eq_true h)]; omega
  · rw [if_neg (by simpa using h)]; omega
theorem yd_succ (y : Int) : yd (y + 1) = yd y + 365 + leapI y := by
  unfold yd; rw [lp_succ]; omega
theorem cum_succ (y m : Int) (h1 : 1 ≤ m) (h2 : m ≤ 12) : cum y (m + 1) = cum y m + lenM y m := by
  rcases (by omega : m = 1 ∨ m = 2 ∨ m = 3 ∨ m = 4 ∨ m = 5 ∨ m = 6 ∨ m = 7 ∨ m = 8 ∨ m = 9 ∨ m = 10 ∨ m = 11 ∨ m = 12) with h | h | h | h | h | h | h | h | h | h | h | h <;> subst h <;> simp [cum, lenM] <;> omega
theorem lenM_bd (y m : Int) (h1 : 1 ≤ m) (h2 : m ≤ 12) : 28 ≤ lenM y m ∧ lenM y m ≤ 31 := by
  have := leapI_01 y
  unfold lenM; split
  · omega
  · split
    · omega
    · rw [if_pos ⟨h1, h2⟩]; omega
theorem lenM_out (y m : Int) (h : m < 1 ∨ 12 < m) : lenM y m = 0 := by
  unfold lenM; rw [if_neg (by omega), if_neg (by omega), if_neg (by omega)]
theorem lenM_nn (y m : Int) : 0 ≤ lenM y m ∧ lenM y m ≤ 31 := by
  by_cases h : m < 1 ∨ 12 < m
  · rw [lenM_out y m h]; omega
  · have := lenM_bd y m (by omega) (by omega); omega
theorem cum_bd (y m : Int) (h1 : 1 ≤ m) (h2 : m ≤ 13) : 28 * (m - 1) ≤ cum y m ∧ cum y m ≤ 31 * (m - 1) := by
  have := leapI_01 y
  rcases (by omega : m = 1 ∨ m = 2 ∨ m = 3 ∨ m = 4 ∨ m = 5 ∨ m = 6 ∨ m = 7 ∨ m = 8 ∨ m = 9 ∨ m = 10 ∨ m = 11 ∨ m = 12 ∨ m = 13) with h | h | h | h | h | h | h | h | h | h | h | h | h <;> subst h <;> simp [cum] <;> omega
theorem cum_13 (y : Int) : cum y 13 = 365 + leapI y := by simp [cum]; omega
theorem cum_1 (y : Int) : cum y 1 = 0 := rfl
theorem yd_1900 : yd 1900 = 0 := by decide
theorem st_succ (k : Int) : st (k + 1) = st k + ml k := by
  unfold st ml
  by_cases h : k % 12 = 11
  · have e1 : yr (k + 1) = yr k + 1 := by unfold yr; omega
    have e2 : mo (k + 1) = 1 := by unfold mo; omega
    have e3 : mo k = 12 := by unfold mo; omega
    have := cum_succ (yr k) 12 (by omega) (by omega)
    rw [show (12 : Int) + 1 = 13 from rfl, cum_13] at this
    rw [e1, e2, e3, yd_succ, cum_1]; omega
  · have e1 : yr (k + 1) = yr k := by unfold yr; omega
    have e2 : mo (k + 1) = mo k + 1 := by unfold mo; omega
    rw [e1, e2, cum_succ (yr k) (mo k) (by unfold mo; omega) (by unfold mo; omega)]; omega
theorem ml_bd (k : Int) : 28 ≤ ml k ∧ ml k ≤ 31 := lenM_bd _ _ (by unfold mo; omega) (by unfold mo; omega)
theorem st_0 : st 0 = 0 := by decide
theorem st_step (k : Int) (n : Nat) : st k + 28 * n ≤ st (k + n) ∧ st (k + n) ≤ st k + 31 * n := by
  induction n with
  | zero => simp
  | succ n ih =>
    have := st_succ (k + n); have := ml_bd (k + n)
    rw [show k + ((n + 1 : Nat) : Int) = k + n + 1 by omega]
    omega
theorem st_lt {j k : Int} (h : j ≤ k) : st j + 28 * (k - j) ≤ st k := by
  have := (st_step j (k - j).toNat).1
  rw [show j + ((k - j).toNat : Int) = k by omega] at this; omega
theorem st_up {j k : Int} (h : j ≤ k) : st k ≤ st j + 31 * (k - j) := by
  have := (st_step j (k - j).toNat).2
  rw [show j + ((k - j).toNat : Int) = k by omega] at this; omega
theorem st_end : st 2153 = 65530 := by decide
theorem st_2154 : st 2154 = 65560 := by decide

/-- The number of the month of a date. -/
def InMonth (d k : Int) : Prop := 0 ≤ k ∧ st k ≤ d ∧ d < st (k + 1)
theorem inMonth_ex (n : Nat) : ∃ k, InMonth n k := by
  induction n with
  | zero => exact ⟨0, by omega, by decide, by decide⟩
  | succ n ih =>
    obtain ⟨k, h0, h1, h2⟩ := ih
    by_cases h : (n : Int) + 1 < st (k + 1)
    · exact ⟨k, h0, by omega, by omega⟩
    · have := st_succ (k + 1); have := ml_bd (k + 1)
      exact ⟨k + 1, by omega, by omega, by omega⟩
theorem inMonth_uniq {d j k : Int} (h : InMonth d j) (g : InMonth d k) : j = k := by
  obtain ⟨h0, h1, h2⟩ := h; obtain ⟨g0, g1, g2⟩ := g
  by_cases a : j < k
  · have := st_lt (j := j + 1) (k := k) (by omega); omega
  · by_cases b : k < j
    · have := st_lt (j := k + 1) (k := j) (by omega); omega
    · omega
open Classical in
/-- The number of the month of a date; 0 for a number below 0. -/
noncomputable def mon (d : Int) : Int := if h : ∃ k, InMonth d k then Classical.choose h else 0
theorem mon_in {d : Int} (h : 0 ≤ d) : InMonth d (mon d) := by
  obtain ⟨k, hk⟩ := inMonth_ex d.toNat
  rw [show ((d.toNat : Nat) : Int) = d by omega] at hk
  have h : ∃ k, InMonth d k := ⟨k, hk⟩
  unfold mon; rw [dif_pos h]; exact Classical.choose_spec h
theorem mon_eq {d k : Int} (h : InMonth d k) : mon d = k := inMonth_uniq (mon_in (by obtain ⟨a, b, _⟩ := h; have := st_lt (j := 0) (k := k) a; rw [st_0] at this; omega)) h
theorem mon_lt {d : Int} (h0 : 0 ≤ d) (h : d < 65536) : 0 ≤ mon d ∧ mon d < 2154 := by
  have ⟨a, b, c⟩ := mon_in h0
  refine ⟨a, ?_⟩
  by_cases g : 2154 ≤ mon d
  · have := st_lt (j := 2154) (k := mon d) g; rw [st_2154] at this; omega
  · omega
theorem mon_mono {a b : Int} (h0 : 0 ≤ a) (h : a ≤ b) : mon a ≤ mon b := by
  have ⟨a0, a1, a2⟩ := mon_in h0
  have ⟨b0, b1, b2⟩ := mon_in (d := b) (by omega)
  by_cases g : mon b < mon a
  · have := st_lt (j := mon b + 1) (k := mon a) (by omega); omega
  · omega
end Go.Proofs.YtmpkjooglpomoaaDoor
