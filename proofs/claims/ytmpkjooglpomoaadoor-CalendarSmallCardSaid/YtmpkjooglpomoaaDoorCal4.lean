/- The texts of dates: ten bytes, ordered as the dates. -/
import GoSem.Op.String
import Derived.Test.YtmpkjooglpomoaaDoorCal3
namespace Go.Proofs.YtmpkjooglpomoaaDoor

/-- The byte of the last digit of a number. -/
def dg (n : Int) : UInt8 := UInt8.ofNat (48 + n % 10).toNat
theorem dg_nat (n : Int) : (dg n).toNat = (48 + n % 10).toNat := by
  unfold dg; rw [UInt8.toNat_ofNat']; omega
theorem dg_lt (a b : Int) : (dg a < dg b) ↔ a % 10 < b % 10 := by
  rw [UInt8.lt_iff_toNat_lt, dg_nat, dg_nat]; omega
theorem dg_eq (a b : Int) : (dg a = dg b) ↔ a % 10 = b % 10 := by
  rw [← UInt8.toNat_inj, dg_nat, dg_nat]; omega
/-- The bytes of the text of a year, a month and a day. -/
def txt (y m d : Int) : List UInt8 := [dg (y / 10 / 10 / 10), dg (y / 10 / 10), dg (y / 10), dg y, 45, dg (m / 10), dg m, 45, dg (d / 10), dg d]
theorem less_cons (a b : UInt8) (x y : List UInt8) : (Op.bytesLess (a :: x) (b :: y) = true) ↔ (a < b ∨ (a = b ∧ Op.bytesLess x y = true)) := by
  simp [Op.bytesLess]
theorem less_two {a b : Int} (x y : List UInt8) (ha : 0 ≤ a ∧ a < 100) (hb : 0 ≤ b ∧ b < 100) :
    (Op.bytesLess (dg (a / 10) :: dg a :: x) (dg (b / 10) :: dg b :: y) = true) ↔ (a < b ∨ (a = b ∧ Op.bytesLess x y = true)) := by
  rw [less_cons, less_cons, dg_lt, dg_lt, dg_eq, dg_eq]
  have a1 : a / 10 % 10 = a / 10 := by omega
  have b1 : b / 10 % 10 = b / 10 := by omega
  have a2 : a % 10 = a - 10 * (a / 10) := by omega
  have b2 : b % 10 = b - 10 * (b / 10) := by omega
  have a3 : 0 ≤ a - 10 * (a / 10) ∧ a - 10 * (a / 10) < 10 := by omega
  have b3 : 0 ≤ b - 10 * (b / 10) ∧ b - 10 * (b / 10) < 10 := by omega
  rw [a1, b1, a2, b2]
  generalize a / 10 = p at *
  generalize b / 10 = q at *
  constructor
  · rintro (g | ⟨g, g | ⟨g2, g3⟩⟩)
    · exact Or.inl (by omega)
    · exact Or.inl (by omega)
    · exact Or.inr ⟨by omega, g3⟩
  · rintro (g | ⟨g, g3⟩)
    · rcases (by omega : p < q ∨ p = q) with e | e
      · exact Or.inl e
      · exact Or.inr ⟨e, Or.inl (by omega)⟩
    · exact Or.inr ⟨by omega, Or.inr ⟨by omega, g3⟩⟩
theorem less_four {a b : Int} (x y : List UInt8) (ha : 0 ≤ a ∧ a < 10000) (hb : 0 ≤ b ∧ b < 10000) :
    (Op.bytesLess (dg (a / 10 / 10 / 10) :: dg (a / 10 / 10) :: dg (a / 10) :: dg a :: x) (dg (b / 10 / 10 / 10) :: dg (b / 10 / 10) :: dg (b / 10) :: dg b :: y) = true) ↔ (a < b ∨ (a = b ∧ Op.bytesLess x y = true)) := by
  have e1 := less_two (a := a / 10 / 10) (b := b / 10 / 10) (dg (a / 10) :: dg a :: x) (dg (b / 10) :: dg b :: y) (by omega) (by omega)
  rw [e1]
  have e2 := less_cons (dg (a / 10)) (dg (b / 10)) (dg a :: x) (dg b :: y)
  rw [e2, less_cons, dg_lt, dg_lt, dg_eq, dg_eq]
  have a1 : a / 10 % 10 = a / 10 - 10 * (a / 10 / 10) := by omega
  have b1 : b / 10 % 10 = b / 10 - 10 * (b / 10 / 10) := by omega
  have a2 : a % 10 = a - 10 * (a / 10) := by omega
  have b2 : b % 10 = b - 10 * (b / 10) := by omega
  have a3 : 0 ≤ a - 10 * (a / 10) ∧ a - 10 * (a / 10) < 10 := by omega
  have b3 : 0 ≤ b - 10 * (b / 10) ∧ b - 10 * (b / 10) < 10 := by omega
  have a4 : 0 ≤ a / 10 - 10 * (a / 10 / 10) ∧ a / 10 - 10 * (a / 10 / 10) < 10 := by omega
  have b4 : 0 ≤ b / 10 - 10 * (b / 10 / 10) ∧ b / 10 - 10 * (b / 10 / 10) < 10 := by omega
  rw [a1, b1, a2, b2]
  generalize a / 10 / 10 = r at *
  generalize b / 10 / 10 = s at *
  generalize a / 10 = p at *
  generalize b / 10 = q at *
  constructor
  · rintro (g | ⟨g, g | ⟨g2, g | ⟨g3, g4⟩⟩⟩)
    · exact Or.inl (by omega)
    · exact Or.inl (by omega)
    · exact Or.inl (by omega)
    · exact Or.inr ⟨by omega, g4⟩
  · rintro (g | ⟨g, g3⟩)
    · rcases (by omega : r < s ∨ r = s) with e | e
      · exact Or.inl e
      · rcases (by omega : p < q ∨ p = q) with e' | e'
        · exact Or.inr ⟨e, Or.inl (by omega)⟩
        · exact Or.inr ⟨e, Or.inr ⟨by omega, Or.inl (by omega)⟩⟩
    · exact Or.inr ⟨by omega, Or.inr ⟨by omega, Or.inr ⟨by omega, g3⟩⟩⟩
theorem less_nil : (Op.bytesLess [] [] = true) ↔ False := by simp [Op.bytesLess]
theorem txt_less {y m d y' m' d' : Int} (hy : 0 ≤ y ∧ y < 10000) (hm : 0 ≤ m ∧ m < 100) (hd : 0 ≤ d ∧ d < 100) (hy' : 0 ≤ y' ∧ y' < 10000) (hm' : 0 ≤ m' ∧ m' < 100) (hd' : 0 ≤ d' ∧ d' < 100) :
    (Op.bytesLess (txt y m d) (txt y' m' d') = true) ↔ (y < y' ∨ (y = y' ∧ (m < m' ∨ (m = m' ∧ d < d')))) := by
  unfold txt
  rw [less_four _ _ hy hy', less_cons, less_two _ _ hm hm', less_cons, less_two _ _ hd hd', less_nil]
  simp
/-- The bytes of the text of a date. -/
noncomputable def txtD (d : Int) : List UInt8 := txt (yr (mon d)) (mo (mon d)) (d - st (mon d) + 1)
theorem date_bd {d : Int} (h : IsD d) : (0 ≤ yr (mon d) ∧ yr (mon d) < 10000) ∧ (0 ≤ mo (mon d) ∧ mo (mon d) < 100) ∧ (0 ≤ d - st (mon d) + 1 ∧ d - st (mon d) + 1 < 100) := by
  have ⟨a, b⟩ := mon_lt h.1 h.2
  have := yr_bd a b; have := mo_bd (mon d); have := mon_day h.1; have := ml_bd (mon d)
  refine ⟨by omega, by omega, by omega⟩
theorem txtD_less {a b : Int} (ha : IsD a) (hb : IsD b) : Op.bytesLess (txtD a) (txtD b) = decide (a < b) := by
  have ⟨a1, a2, a3⟩ := date_bd ha
  have ⟨b1, b2, b3⟩ := date_bd hb
  rw [Bool.eq_iff_iff, decide_eq_true_iff]
  unfold txtD
  rw [txt_less a1 a2 a3 b1 b2 b3]
  have ea := yrmo (mon a); have eb := yrmo (mon b)
  have ma := mo_bd (mon a); have mb := mo_bd (mon b)
  obtain ⟨p1, p2, p3⟩ := mon_in ha.1
  obtain ⟨q1, q2, q3⟩ := mon_in hb.1
  rcases (by omega : mon a < mon b ∨ mon a = mon b ∨ mon b < mon a) with h | h | h
  · have := st_lt (j := mon a + 1) (k := mon b) (by omega); omega
  · rw [h] at *; omega
  · have := st_lt (j := mon b + 1) (k := mon a) (by omega); omega
end Go.Proofs.YtmpkjooglpomoaaDoor
