/- Plain facts on numbers written as decimal digits. Conditions: none. -/
import Derived.Test.YtgnidjhfiagfnaaNums
namespace Go.Proofs.Ytgnidjhfiagfnaa

/-- The dvalue of limbs, the least significant one first. -/
def dval : List Nat → Nat
  | [] => 0
  | x :: xs => x + 10 * dval xs

/-- Each limb is below the base. -/
def Decs (l : List Nat) : Prop := ∀ x ∈ l, x < 10

/-- The limbs of a number, without leading zeros. -/
def ddigs (n : Nat) : List Nat := if n = 0 then [] else n % 10 :: ddigs (n / 10)
termination_by n
decreasing_by omega

theorem ddigs_zero : ddigs 0 = [] := by unfold ddigs; simp
theorem ddigs_pos {n : Nat} (h : n ≠ 0) : ddigs n = n % 10 :: ddigs (n / 10) := by
  conv => lhs; unfold ddigs
  simp [h]

theorem dval_digs (n : Nat) : dval (ddigs n) = n := by
  induction n using Nat.strongRecOn with
  | _ n ih =>
    by_cases h : n = 0
    · subst h; rw [ddigs_zero]; rfl
    · rw [ddigs_pos h]
      have := ih (n / 10) (by omega)
      simp only [dval, this]
      omega

theorem decs_nil : Decs [] := by intro x hx; cases hx
theorem decs_cons {x : Nat} {l : List Nat} : Decs (x :: l) ↔ x < 10 ∧ Decs l := by
  unfold Decs; simp
theorem decs_append {a b : List Nat} : Decs (a ++ b) ↔ Decs a ∧ Decs b := by
  unfold Decs
  constructor
  · intro h; exact ⟨fun x hx => h x (List.mem_append.2 (.inl hx)), fun x hx => h x (List.mem_append.2 (.inr hx))⟩
  · rintro ⟨h, k⟩ x hx
    rcases List.mem_append.1 hx with hx | hx
    · exact h x hx
    · exact k x hx
theorem decs_take {l : List Nat} (h : Decs l) (k : Nat) : Decs (l.take k) := fun x hx => h x (List.mem_of_mem_take hx)
theorem decs_drop {l : List Nat} (h : Decs l) (k : Nat) : Decs (l.drop k) := fun x hx => h x (List.mem_of_mem_drop hx)

theorem decs_digs (n : Nat) : Decs (ddigs n) := by
  induction n using Nat.strongRecOn with
  | _ n ih =>
    by_cases h : n = 0
    · subst h; rw [ddigs_zero]; exact decs_nil
    · rw [ddigs_pos h, decs_cons]
      exact ⟨by omega, ih _ (by omega)⟩

theorem dval_append (a b : List Nat) : dval (a ++ b) = dval a + 10 ^ a.length * dval b := by
  induction a with
  | nil => simp [dval]
  | cons x xs ih =>
    simp only [List.cons_append, dval, ih, List.length_cons, Nat.pow_succ, Nat.mul_add]
    rw [Nat.mul_comm (10 ^ xs.length) 10, Nat.mul_assoc]
    omega

theorem dval_snoc (a : List Nat) (x : Nat) : dval (a ++ [x]) = dval a + 10 ^ a.length * x := by
  rw [dval_append]; simp [dval]

theorem dval_lt {l : List Nat} (h : Decs l) : dval l < 10 ^ l.length := by
  induction l with
  | nil => simp [dval]
  | cons x xs ih =>
    rw [decs_cons] at h
    have := ih h.2
    simp only [dval, List.length_cons, Nat.pow_succ]
    omega

/-- Decs without a leading zero are the limbs of their dvalue. -/
def DNorm (l : List Nat) : Prop := Decs l ∧ ddigs (dval l) = l

theorem dnorm_digs (n : Nat) : DNorm (ddigs n) := ⟨decs_digs n, by rw [dval_digs]⟩
theorem dnorm_nil : DNorm [] := ⟨decs_nil, by simp [dval, ddigs_zero]⟩

theorem dval_eq_zero {l : List Nat} (h : ∀ x ∈ l, x = 0) : dval l = 0 := by
  induction l with
  | nil => rfl
  | cons x xs ih =>
    have h1 : x = 0 := h x (by simp)
    have h2 := ih (fun y hy => h y (by simp [hy]))
    simp [dval, h1, h2]

/-- Leading zeros do not matter. -/
theorem dval_snoc_zero (a : List Nat) : dval (a ++ [0]) = dval a := by rw [dval_snoc]; simp

theorem dnorm_snoc {a : List Nat} {x : Nat} (ha : Decs a) (hx : x < 10) (h0 : x ≠ 0) : DNorm (a ++ [x]) := by
  refine ⟨decs_append.2 ⟨ha, by intro y hy; simp at hy; omega⟩, ?_⟩
  induction a with
  | nil =>
    simp only [List.nil_append, dval]
    rw [ddigs_pos (by omega)]
    have h1 : (x + 10 * 0) % 10 = x := by omega
    have h2 : (x + 10 * 0) / 10 = 0 := by omega
    rw [h1, h2, ddigs_zero]
  | cons y ys ih =>
    rw [decs_cons] at ha
    have hv : dval (ys ++ [x]) ≠ 0 := by
      rw [dval_snoc]
      have : 0 < 10 ^ ys.length * x := Nat.mul_pos (Nat.pow_pos (by omega)) (by omega)
      omega
    simp only [List.cons_append, dval]
    rw [ddigs_pos (by omega)]
    have h1 : (y + 10 * dval (ys ++ [x])) % 10 = y := by omega
    have h2 : (y + 10 * dval (ys ++ [x])) / 10 = dval (ys ++ [x]) := by omega
    rw [h1, h2, ih ha.2]

theorem dnorm_of_last {l : List Nat} (h : Decs l) (hl : l = [] ∨ l.getD (l.length - 1) 0 ≠ 0) : DNorm l := by
  rcases hl with rfl | hl
  · exact dnorm_nil
  · rcases List.eq_nil_or_concat l with rfl | ⟨a, x, rfl⟩
    · exact dnorm_nil
    · have hx : x ≠ 0 := by simpa [List.getD_eq_getElem?_getD] using hl
      have h2 := decs_append.1 (by simpa using h : Decs (a ++ [x]))
      simpa using dnorm_snoc h2.1 (h2.2 x (by simp)) hx

theorem dnorm_last {l : List Nat} (h : DNorm l) (hne : l ≠ []) : l.getD (l.length - 1) 0 ≠ 0 := by
  rcases List.eq_nil_or_concat l with rfl | ⟨a, x, rfl⟩
  · exact absurd rfl hne
  · intro h0
    have hx : x = 0 := by simpa [List.getD_eq_getElem?_getD] using h0
    subst hx
    have h1 := h.2
    simp only [List.concat_eq_append] at h1
    rw [dval_snoc_zero] at h1
    have h2 : (ddigs (dval a)).length = a.length + 1 := by rw [h1]; simp
    have h3 := decs_append.1 (by simpa using h.1 : Decs (a ++ [0]))
    have h4 := dval_lt h3.1
    have : ∀ k n : Nat, n < 10 ^ k → (ddigs n).length ≤ k := by
      intro k
      induction k with
      | zero => intro n hn; have : n = 0 := by simpa using hn
                subst this; simp [ddigs_zero]
      | succ k ih =>
        intro n hn
        by_cases h : n = 0
        · subst h; simp [ddigs_zero]
        · rw [ddigs_pos h]
          have := ih (n / 10) (by rw [Nat.pow_succ] at hn; omega)
          simp; omega
    have := this a.length _ h4
    omega

theorem ddigs_length {k n : Nat} (h : n < 10 ^ k) : (ddigs n).length ≤ k := by
  induction k generalizing n with
  | zero => have : n = 0 := by simpa using h
            subst this; simp [ddigs_zero]
  | succ k ih =>
    by_cases h0 : n = 0
    · subst h0; simp [ddigs_zero]
    · rw [ddigs_pos h0]
      have := ih (n := n / 10) (by rw [Nat.pow_succ] at h; omega)
      simp; omega

theorem lt_of_ddigs_length {k n : Nat} (h : (ddigs n).length ≤ k) : n < 10 ^ k := by
  have h1 := dval_lt (decs_digs n)
  rw [dval_digs] at h1
  exact Nat.lt_of_lt_of_le h1 (Nat.pow_le_pow_right (by omega) h)

theorem ddigs_eq_nil {n : Nat} : ddigs n = [] ↔ n = 0 := by
  constructor
  · intro h
    have := dval_digs n
    rw [h] at this
    exact this.symm
  · rintro rfl; exact ddigs_zero

theorem nth_lt10 {l : List Nat} (h : Decs l) (j : Nat) (hj : j < l.length) : nth l j < 10 := by
  unfold nth
  rw [List.getD_eq_getElem?_getD, List.getElem?_eq_getElem hj]
  exact h _ (List.getElem_mem hj)
theorem dcut_eq {l : List Nat} (h : Decs l) {n : Nat} (hn : n ≤ l.length) : l.take (cutLen l n) = ddigs (dval (l.take n)) := by
  induction n with
  | zero => simp [cutLen, dval, ddigs_zero]
  | succ n ih =>
    unfold cutLen
    rw [take_snoc_getD l (by omega)]
    split
    · rename_i h0
      rw [h0, dval_snoc_zero]
      exact ih (by omega)
    · rename_i h0
      rw [take_snoc_getD l (by omega)]
      exact (dnorm_snoc (decs_take h n) (nth_lt10 h n (by omega)) h0).2.symm

theorem dcut_all {l : List Nat} (h : Decs l) : l.take (cutLen l l.length) = ddigs (dval l) := by
  have := dcut_eq h (Nat.le_refl _)
  rwa [List.take_length] at this

theorem cutLen_ddigs {l : List Nat} (h : Decs l) : cutLen l l.length = (ddigs (dval l)).length := by
  rw [← dcut_all h, List.length_take]
  have := cutLen_le l l.length
  omega


end Go.Proofs.Ytgnidjhfiagfnaa
