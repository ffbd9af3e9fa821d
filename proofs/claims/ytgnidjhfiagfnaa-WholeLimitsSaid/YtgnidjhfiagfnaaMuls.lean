/- Plain facts on the columns of a product of numbers in base 65536. Conditions: none. -/
import Derived.Test.YtgnidjhfiagfnaaNums
namespace Go.Proofs.Ytgnidjhfiagfnaa

/-- The part of column k of the product that the first i limbs of a give. -/
def colTo (a b : List Nat) (k : Nat) : Nat → Nat
  | 0 => 0
  | i + 1 => colTo a b k i + nth a i * nth b (k - i)

/-- Column k of the product. -/
def col : List Nat → List Nat → Nat → Nat
  | [], _, _ => 0
  | x :: _, b, 0 => x * nth b 0
  | x :: a, b, k + 1 => x * nth b (k + 1) + col a b k

/-- The columns below n, each at its place. -/
def cols (a b : List Nat) : Nat → Nat
  | 0 => 0
  | n + 1 => cols a b n + 65536 ^ n * col a b n

theorem nth_cons_zero (x : Nat) (a : List Nat) : nth (x :: a) 0 = x := rfl
theorem nth_cons_succ (x : Nat) (a : List Nat) (i : Nat) : nth (x :: a) (i + 1) = nth a i := by simp [nth]
theorem nth_nil (i : Nat) : nth [] i = 0 := by simp [nth]

theorem colTo_cons (x : Nat) (a b : List Nat) (k i : Nat) : colTo (x :: a) b (k + 1) (i + 1) = x * nth b (k + 1) + colTo a b k i := by
  induction i with
  | zero => simp [colTo, nth_cons_zero]
  | succ i ih =>
    rw [colTo, ih, colTo, nth_cons_succ, show k + 1 - (i + 1) = k - i by omega, Nat.add_assoc]

theorem colTo_nil (b : List Nat) (k i : Nat) : colTo [] b k i = 0 := by
  induction i with
  | zero => rfl
  | succ i ih => rw [colTo, ih, nth_nil]; simp

theorem colTo_all (a b : List Nat) (k : Nat) : colTo a b k (k + 1) = col a b k := by
  induction a generalizing k with
  | nil => rw [colTo_nil]; cases k <;> rfl
  | cons x a ih =>
    cases k with
    | zero => simp [colTo, col, nth_cons_zero]
    | succ k => rw [colTo_cons, ih]; rfl

/-- Where b ends, the column has not begun. -/
theorem colTo_low (a b : List Nat) (k i : Nat) (h : i + b.length ≤ k + 1) : colTo a b k i = 0 := by
  induction i with
  | zero => rfl
  | succ i ih =>
    rw [colTo, ih (by omega), nth_ge (l := b) (j := k - i) (by omega)]
    simp

/-- Where a ends, the column has ended. -/
theorem colTo_high (a b : List Nat) (k i j : Nat) (h : a.length ≤ i) : colTo a b k (i + j) = colTo a b k i := by
  induction j with
  | zero => rfl
  | succ j ih =>
    rw [show i + (j + 1) = (i + j) + 1 by omega, colTo, ih, nth_ge (l := a) (j := i + j) (by omega)]
    simp

theorem colTo_end (a b : List Nat) (k i : Nat) (h : i = k + 1 ∨ a.length ≤ i ∧ i ≤ k + 1) : colTo a b k i = col a b k := by
  rw [← colTo_all]
  rcases h with rfl | ⟨h1, h2⟩
  · rfl
  · obtain ⟨j, hj⟩ : ∃ j, k + 1 = i + j := ⟨k + 1 - i, by omega⟩
    rw [hj, colTo_high _ _ _ _ _ h1]

theorem colTo_le {a b : List Nat} (ha : Limbs a) (hb : Limbs b) (k i : Nat) : colTo a b k i ≤ 4294836225 * i := by
  induction i with
  | zero => simp [colTo]
  | succ i ih =>
    rw [colTo]
    have h1 := nth_lt ha i
    have h2 := nth_lt hb (k - i)
    have h3 : nth a i * nth b (k - i) ≤ 65535 * 65535 := Nat.mul_le_mul (by omega) (by omega)
    omega

theorem take_val_succ (l : List Nat) (k : Nat) : val (l.take (k + 1)) = val (l.take k) + 65536 ^ k * nth l k := by
  rcases Nat.lt_or_ge k l.length with h | h
  · rw [take_snoc_getD l h, val_snoc, List.length_take, Nat.min_eq_left (by omega)]
  · rw [List.take_of_length_le (by omega), List.take_of_length_le h, nth_ge h]; omega

theorem cols_cons (x : Nat) (a b : List Nat) (n : Nat) : cols (x :: a) b (n + 1) = x * val (b.take (n + 1)) + 65536 * cols a b n := by
  induction n with
  | zero => simp [cols, col, take_val_succ, val]
  | succ n ih =>
    rw [cols, ih, take_val_succ b (n + 1), cols, col]
    rw [Nat.pow_succ]
    generalize 65536 ^ n = p
    generalize val (b.take (n + 1)) = v
    generalize nth b (n + 1) = u
    generalize cols a b n = s
    generalize col a b n = t
    grind

theorem cols_nil (b : List Nat) (n : Nat) : cols [] b n = 0 := by
  induction n with
  | zero => rfl
  | succ n ih => rw [cols, ih]; cases n <;> simp [col]

theorem cols_all (a b : List Nat) (n : Nat) (h : a.length + b.length ≤ n + 1) (hb : 0 < b.length) : cols a b n = val a * val b := by
  induction a generalizing n with
  | nil => rw [cols_nil]; simp [val]
  | cons x a ih =>
    cases n with
    | zero => simp at h; omega
    | succ n =>
      simp only [List.length_cons] at h
      rw [cols_cons, ih n (by omega), List.take_of_length_le (by omega), val, Nat.add_mul, Nat.mul_assoc]

theorem put_col {L : List Nat} {k c u S : Nat} (hk : L.length = k) (h : val L + 65536 ^ k * c = S) :
    val (L ++ [(c + u) % 65536]) + 65536 ^ (k + 1) * ((c + u) / 65536) = S + 65536 ^ k * u := by
  rw [val_snoc, hk, Nat.pow_succ]
  have e1 : (c + u) % 65536 + 65536 * ((c + u) / 65536) = c + u := by omega
  generalize (c + u) % 65536 = r at *
  generalize (c + u) / 65536 = q at *
  generalize 65536 ^ k = p at *
  subst h
  grind
end Go.Proofs.Ytgnidjhfiagfnaa
