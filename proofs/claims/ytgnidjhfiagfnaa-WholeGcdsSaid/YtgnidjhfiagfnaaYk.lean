/- Plain facts on the quotient that is rounded down, and its rest. Conditions: none. -/
import Derived.Test.YtgnidjhfiagfnaaXm
namespace Go.Proofs.Ytgnidjhfiagfnaa
open Go.RowKit

/-- Q and R are the quotient, rounded down, and the rest of y by z. -/
def DMod (y z Q R : Int) : Prop := Q * z + R = y ∧ ((0 < z ∧ 0 ≤ R ∧ R < z) ∨ (z < 0 ∧ z < R ∧ R ≤ 0))
theorem DMod.unique {y z Q R Q' R' : Int} (h : DMod y z Q R) (h' : DMod y z Q' R') : Q = Q' ∧ R = R' := by
  obtain ⟨e, h⟩ := h
  obtain ⟨e', h'⟩ := h'
  have hz : (Q - Q') * z = R' - R := by rw [Int.sub_mul]; omega
  have hQ : Q - Q' = 0 := by
    rcases Int.lt_trichotomy (Q - Q') 0 with h1 | h1 | h1
    · exfalso
      rcases Int.lt_or_le 0 z with hp | hp
      · have := Int.mul_le_mul_of_nonneg_right (show Q - Q' ≤ -1 by omega) (Int.le_of_lt hp)
        omega
      · have := Int.mul_le_mul_of_nonpos_right (show Q - Q' ≤ -1 by omega) hp
        omega
    · exact h1
    · exfalso
      rcases Int.lt_or_le 0 z with hp | hp
      · have := Int.mul_le_mul_of_nonneg_right (show 1 ≤ Q - Q' by omega) (Int.le_of_lt hp)
        omega
      · have := Int.mul_le_mul_of_nonpos_right (show 1 ≤ Q - Q' by omega) hp
        omega
  rw [hQ] at hz
  omega
def qz (y z : Int) : Int := sgn (decide (y < 0) != decide (z < 0)) (qN (decide (y < 0)) (decide (z < 0)) y.natAbs z.natAbs)
def rz (y z : Int) : Int := sgn (decide (z < 0)) (rN (decide (y < 0)) (decide (z < 0)) y.natAbs z.natAbs)
theorem dmod_qr (y z : Int) (h0 : z ≠ 0) : DMod y z (qz y z) (rz y z) := by
  unfold DMod qz rz sgn qN rN
  have hd := Nat.div_add_mod y.natAbs z.natAbs
  have hm := Nat.mod_lt y.natAbs (show 0 < z.natAbs by omega)
  generalize y.natAbs / z.natAbs = q at *
  generalize y.natAbs % z.natAbs = r at *
  have hi : (z.natAbs : Int) * q + r = y.natAbs := by
    have := congrArg (fun n : Nat => (n : Int)) hd
    simpa using this
  have hn : ∀ n : Nat, decide (n ≠ 0) = !decide (n = 0) := fun n => by cases h : decide (n = 0) <;> simp at h ⊢ <;> exact h
  rcases Int.lt_or_le y 0 with hy | hy <;> rcases Int.lt_or_le z 0 with hz | hz
  · have e1 : (y.natAbs : Int) = -y := by omega
    have e2 : (z.natAbs : Int) = -z := by omega
    have e3 : (q : Int) * z = -((z.natAbs : Int) * q) := by rw [e2]; grind
    rw [decide_eq_true hy, decide_eq_true hz]
    simp only [bne_self_eq_false, Bool.false_and, Bool.false_eq_true, if_false, if_true]
    rw [e3]
    constructor
    · omega
    · right; omega
  · have e1 : (y.natAbs : Int) = -y := by omega
    have e2 : (z.natAbs : Int) = z := by omega
    have e3 : (q : Int) * z = ((z.natAbs : Int) * q) := by rw [e2]; grind
    rw [decide_eq_true hy, decide_eq_false (show ¬ z < 0 by omega)]
    by_cases hr : r = 0
    · subst hr
      simp
      constructor
      · have : -(q : Int) * z = -((q : Int) * z) := Int.neg_mul _ _
        grind
      · left; omega
    · simp [hr]
      constructor
      · have : (-1 + -(q : Int)) * z = -z - (q : Int) * z := by grind
        have e5 : ((z.natAbs - r : Nat) : Int) = z - r := by omega
        grind
      · left; omega
  · have e1 : (y.natAbs : Int) = y := by omega
    have e2 : (z.natAbs : Int) = -z := by omega
    have e3 : (q : Int) * z = -((z.natAbs : Int) * q) := by rw [e2]; grind
    rw [decide_eq_false (show ¬ y < 0 by omega), decide_eq_true hz]
    by_cases hr : r = 0
    · subst hr
      simp
      constructor
      · have : -(q : Int) * z = -((q : Int) * z) := Int.neg_mul _ _
        grind
      · right; omega
    · simp [hr]
      constructor
      · have e5 : ((z.natAbs - r : Nat) : Int) = -z - r := by omega
        grind
      · right; omega
  · have e1 : (y.natAbs : Int) = y := by omega
    have e2 : (z.natAbs : Int) = z := by omega
    have e3 : (q : Int) * z = ((z.natAbs : Int) * q) := by rw [e2]; grind
    rw [decide_eq_false (show ¬ y < 0 by omega), decide_eq_false (show ¬ z < 0 by omega)]
    simp only [bne_self_eq_false, Bool.false_and, Bool.false_eq_true, if_false]
    rw [e3]
    constructor
    · omega
    · left; omega

end Go.Proofs.Ytgnidjhfiagfnaa
