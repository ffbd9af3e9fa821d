/- Plain facts on numbers written as limbs in base 65536: no program is named here. Conditions: none. -/
namespace Go.Proofs.Ytgnidjhfiagfnaa

/-- The value of limbs, the least significant one first. -/
def val : List Nat → Nat
  | [] => 0
  | x :: xs => x + 65536 * val xs

/-- Each limb is below the base. -/
def Limbs (l : List Nat) : Prop := ∀ x ∈ l, x < 65536

/-- The limbs of a number, without leading zeros. -/
def digs (n : Nat) : List Nat := if n = 0 then [] else n % 65536 :: digs (n / 65536)
termination_by n
decreasing_by omega

theorem digs_zero : digs 0 = [] := by unfold digs; simp
theorem digs_pos {n : Nat} (h : n ≠ 0) : digs n = n % 65536 :: digs (n / 65536) := by
  conv => lhs; unfold digs
  simp [h]

theorem val_digs (n : Nat) : val (digs n) = n := by
  induction n using Nat.strongRecOn with
  | _ n ih =>
    by_cases h : n = 0
    · subst h; rw [digs_zero]; rfl
    · rw [digs_pos h]
      have := ih (n / 65536) (by omega)
      simp only [val, this]
      omega

theorem limbs_nil : Limbs [] := by intro x hx; cases hx
theorem limbs_cons {x : Nat} {l : List Nat} : Limbs (x :: l) ↔ x < 65536 ∧ Limbs l := by
  unfold Limbs; simp
theorem limbs_append {a b : List Nat} : Limbs (a ++ b) ↔ Limbs a ∧ Limbs b := by
  unfold Limbs
  constructor
  · intro h; exact ⟨fun x hx => h x (List.mem_append.2 (.inl hx)), fun x hx => h x (List.mem_append.2 (.inr hx))⟩
  · rintro ⟨h, k⟩ x hx
    rcases List.mem_append.1 hx with hx | hx
    · exact h x hx
    · exact k x hx
theorem limbs_take {l : List Nat} (h : Limbs l) (k : Nat) : Limbs (l.take k) := fun x hx => h x (List.mem_of_mem_take hx)
theorem limbs_drop {l : List Nat} (h : Limbs l) (k : Nat) : Limbs (l.drop k) := fun x hx => h x (List.mem_of_mem_drop hx)

theorem limbs_digs (n : Nat) : Limbs (digs n) := by
  induction n using Nat.strongRecOn with
  | _ n ih =>
    by_cases h : n = 0
    · subst h; rw [digs_zero]; exact limbs_nil
    · rw [digs_pos h, limbs_cons]
      exact ⟨by omega, ih _ (by omega)⟩

theorem val_append (a b : List Nat) : val (a ++ b) = val a + 65536 ^ a.length * val b := by
  induction a with
  | nil => simp [val]
  | cons x xs ih =>
    simp only [List.cons_append, val, ih, List.length_cons, Nat.pow_succ, Nat.mul_add]
    rw [Nat.mul_comm (65536 ^ xs.length) 65536, Nat.mul_assoc]
    omega

theorem val_snoc (a : List Nat) (x : Nat) : val (a ++ [x]) = val a + 65536 ^ a.length * x := by
  rw [val_append]; simp [val]

theorem val_lt {l : List Nat} (h : Limbs l) : val l < 65536 ^ l.length := by
  induction l with
  | nil => simp [val]
  | cons x xs ih =>
    rw [limbs_cons] at h
    have := ih h.2
    simp only [val, List.length_cons, Nat.pow_succ]
    omega

/-- Limbs without a leading zero are the limbs of their value. -/
def Norm (l : List Nat) : Prop := Limbs l ∧ digs (val l) = l

theorem norm_digs (n : Nat) : Norm (digs n) := ⟨limbs_digs n, by rw [val_digs]⟩
theorem norm_nil : Norm [] := ⟨limbs_nil, by simp [val, digs_zero]⟩

theorem val_eq_zero {l : List Nat} (h : ∀ x ∈ l, x = 0) : val l = 0 := by
  induction l with
  | nil => rfl
  | cons x xs ih =>
    have h1 : x = 0 := h x (by simp)
    have h2 := ih (fun y hy => h y (by simp [hy]))
    simp [val, h1, h2]

/-- Leading zeros do not matter. -/
theorem val_snoc_zero (a : List Nat) : val (a ++ [0]) = val a := by rw [val_snoc]; simp

theorem norm_snoc {a : List Nat} {x : Nat} (ha : Limbs a) (hx : x < 65536) (h0 : x ≠ 0) : Norm (a ++ [x]) := by
  refine ⟨limbs_append.2 ⟨ha, by intro y hy; simp at hy; omega⟩, ?_⟩
  induction a with
  | nil =>
    simp only [List.nil_append, val]
    rw [digs_pos (by omega)]
    have h1 : (x + 65536 * 0) % 65536 = x := by omega
    have h2 : (x + 65536 * 0) / 65536 = 0 := by omega
    rw [h1, h2, digs_zero]
  | cons y ys ih =>
    rw [limbs_cons] at ha
    have hv : val (ys ++ [x]) ≠ 0 := by
      rw [val_snoc]
      have : 0 < 65536 ^ ys.length * x := Nat.mul_pos (Nat.pow_pos (by omega)) (by omega)
      omega
    simp only [List.cons_append, val]
    rw [digs_pos (by omega)]
    have h1 : (y + 65536 * val (ys ++ [x])) % 65536 = y := by omega
    have h2 : (y + 65536 * val (ys ++ [x])) / 65536 = val (ys ++ [x]) := by omega
    rw [h1, h2, ih ha.2]

theorem norm_of_last {l : List Nat} (h : Limbs l) (hl : l = [] ∨ l.getD (l.length - 1) 0 ≠ 0) : Norm l := by
  rcases hl with rfl | hl
  · exact norm_nil
  · rcases List.eq_nil_or_concat l with rfl | ⟨a, x, rfl⟩
    · exact norm_nil
    · have hx : x ≠ 0 := by simpa [List.getD_eq_getElem?_getD] using hl
      have h2 := limbs_append.1 (by simpa using h : Limbs (a ++ [x]))
      simpa using norm_snoc h2.1 (h2.2 x (by simp)) hx

theorem norm_last {l : List Nat} (h : Norm l) (hne : l ≠ []) : l.getD (l.length - 1) 0 ≠ 0 := by
  rcases List.eq_nil_or_concat l with rfl | ⟨a, x, rfl⟩
  · exact absurd rfl hne
  · intro h0
    have hx : x = 0 := by simpa [List.getD_eq_getElem?_getD] using h0
    subst hx
    have h1 := h.2
    simp only [List.concat_eq_append] at h1
    rw [val_snoc_zero] at h1
    have h2 : (digs (val a)).length = a.length + 1 := by rw [h1]; simp
    have h3 := limbs_append.1 (by simpa using h.1 : Limbs (a ++ [0]))
    have h4 := val_lt h3.1
    have : ∀ k n : Nat, n < 65536 ^ k → (digs n).length ≤ k := by
      intro k
      induction k with
      | zero => intro n hn; have : n = 0 := by simpa using hn
                subst this; simp [digs_zero]
      | succ k ih =>
        intro n hn
        by_cases h : n = 0
        · subst h; simp [digs_zero]
        · rw [digs_pos h]
          have := ih (n / 65536) (by rw [Nat.pow_succ] at hn; omega)
          simp; omega
    have := this a.length _ h4
    omega

theorem digs_length {k n : Nat} (h : n < 65536 ^ k) : (digs n).length ≤ k := by
  induction k generalizing n with
  | zero => have : n = 0 := by simpa using h
            subst this; simp [digs_zero]
  | succ k ih =>
    by_cases h0 : n = 0
    · subst h0; simp [digs_zero]
    · rw [digs_pos h0]
      have := ih (n := n / 65536) (by rw [Nat.pow_succ] at h; omega)
      simp; omega

theorem lt_of_digs_length {k n : Nat} (h : (digs n).length ≤ k) : n < 65536 ^ k := by
  have h1 := val_lt (limbs_digs n)
  rw [val_digs] at h1
  exact Nat.lt_of_lt_of_le h1 (Nat.pow_le_pow_right (by omega) h)

theorem digs_eq_nil {n : Nat} : digs n = [] ↔ n = 0 := by
  constructor
  · intro h
    have := val_digs n
    rw [h] at this
    exact this.symm
  · rintro rfl; exact digs_zero

/-- The limb at a place; 0 behind the last one. -/
def nth (l : List Nat) (j : Nat) : Nat := l.getD j 0

theorem nth_lt {l : List Nat} (h : Limbs l) (j : Nat) : nth l j < 65536 := by
  unfold nth
  rw [List.getD_eq_getElem?_getD]
  rcases Nat.lt_or_ge j l.length with hj | hj
  · rw [List.getElem?_eq_getElem hj]; exact h _ (List.getElem_mem hj)
  · rw [List.getElem?_eq_none hj]; simp

theorem nth_take (l : List Nat) {j k : Nat} (h : j < k) : nth (l.take k) j = nth l j := by
  unfold nth
  simp [List.getD_eq_getElem?_getD, h]

theorem nth_drop (l : List Nat) (j k : Nat) : nth (l.drop k) j = nth l (k + j) := by
  unfold nth
  simp [List.getD_eq_getElem?_getD, List.getElem?_drop]

theorem nth_snoc (l : List Nat) (x : Nat) : nth (l ++ [x]) l.length = x := by
  unfold nth
  simp [List.getD_eq_getElem?_getD]

theorem nth_append {l m : List Nat} {j : Nat} (h : j < l.length) : nth (l ++ m) j = nth l j := by
  unfold nth
  simp [List.getD_eq_getElem?_getD, List.getElem?_append_left h]

theorem nth_ge {l : List Nat} {j : Nat} (h : l.length ≤ j) : nth l j = 0 := by
  unfold nth
  simp [List.getD_eq_getElem?_getD, List.getElem?_eq_none h]

theorem list_ext {a b : List Nat} (h : a.length = b.length) (k : ∀ j, j < a.length → nth a j = nth b j) : a = b := by
  apply List.ext_getElem h
  intro i h1 h2
  have := k i h1
  unfold nth at this
  simpa [List.getD_eq_getElem?_getD, h1, h2] using this

/-- How many limbs are left when leading zeros are cut off. -/
def cutLen (l : List Nat) : Nat → Nat
  | 0 => 0
  | n + 1 => if nth l n = 0 then cutLen l n else n + 1

theorem cutLen_le (l : List Nat) (n : Nat) : cutLen l n ≤ n := by
  induction n with
  | zero => simp [cutLen]
  | succ n ih => unfold cutLen; split <;> omega

theorem take_snoc_getD (l : List Nat) {n : Nat} (h : n < l.length) : l.take (n + 1) = l.take n ++ [nth l n] := by
  rw [List.take_succ_eq_append_getElem h]
  simp [nth, List.getD_eq_getElem?_getD, h]

theorem cut_eq {l : List Nat} (h : Limbs l) {n : Nat} (hn : n ≤ l.length) : l.take (cutLen l n) = digs (val (l.take n)) := by
  induction n with
  | zero => simp [cutLen, val, digs_zero]
  | succ n ih =>
    unfold cutLen
    rw [take_snoc_getD l (by omega)]
    split
    · rename_i h0
      rw [h0, val_snoc_zero]
      exact ih (by omega)
    · rename_i h0
      rw [take_snoc_getD l (by omega)]
      exact (norm_snoc (limbs_take h n) (nth_lt h n) h0).2.symm

theorem cut_all {l : List Nat} (h : Limbs l) : l.take (cutLen l l.length) = digs (val l) := by
  have := cut_eq h (Nat.le_refl _)
  rwa [List.take_length] at this

theorem cutLen_digs {l : List Nat} (h : Limbs l) : cutLen l l.length = (digs (val l)).length := by
  rw [← cut_all h, List.length_take]
  have := cutLen_le l l.length
  omega

/-- The comparison of lists of one length from the most significant limb on. -/
def cmpTop (a b : List Nat) : Nat → Int
  | 0 => 0
  | n + 1 => if nth a n = nth b n then cmpTop a b n else if nth a n < nth b n then -1 else 1

def cmpL (a b : List Nat) : Int :=
  if a.length = b.length then cmpTop a b a.length else if a.length < b.length then -1 else 1

/-- The order of two numbers as -1, 0 or 1. -/
def cmpN (m n : Nat) : Int := if m = n then 0 else if m < n then -1 else 1

theorem cmpTop_eq {a b : List Nat} (ha : Limbs a) (hb : Limbs b) (n : Nat) (h1 : n ≤ a.length) (h2 : n ≤ b.length) :
    cmpTop a b n = cmpN (val (a.take n)) (val (b.take n)) := by
  induction n with
  | zero => simp [cmpTop, cmpN]
  | succ n ih =>
    unfold cmpTop
    rw [take_snoc_getD a (by omega), take_snoc_getD b (by omega), val_snoc, val_snoc]
    have e1 : (a.take n).length = n := by rw [List.length_take]; omega
    have e2 : (b.take n).length = n := by rw [List.length_take]; omega
    have l1 := val_lt (limbs_take ha n)
    have l2 := val_lt (limbs_take hb n)
    rw [e1] at l1 ⊢
    rw [e2] at l2 ⊢
    split
    · rename_i h
      rw [ih (by omega) (by omega), h]
      unfold cmpN
      simp
    · rename_i h
      generalize nth a n = x at *
      generalize nth b n = y at *
      generalize val (a.take n) = p at *
      generalize val (b.take n) = q at *
      generalize 65536 ^ n = m at *
      unfold cmpN
      split
      · rename_i hxy
        have : m * (x + 1) ≤ m * y := Nat.mul_le_mul_left _ (by omega)
        rw [Nat.mul_add] at this
        rw [if_neg (by omega), if_pos (by omega)]
      · rename_i hxy
        have : m * (y + 1) ≤ m * x := Nat.mul_le_mul_left _ (by omega)
        rw [Nat.mul_add] at this
        rw [if_neg (by omega), if_neg (by omega)]

theorem norm_len_lt {a b : List Nat} (ha : Norm a) (hb : Norm b) (h : a.length < b.length) : val a < val b := by
  have h1 := val_lt ha.1
  rcases Nat.lt_or_ge (val a) (val b) with h2 | h2
  · exact h2
  · have : val b < 65536 ^ a.length := by omega
    have h3 := digs_length this
    rw [hb.2] at h3
    omega

theorem cmpL_eq {a b : List Nat} (ha : Norm a) (hb : Norm b) : cmpL a b = cmpN (val a) (val b) := by
  unfold cmpL
  split
  · rename_i h
    rw [cmpTop_eq ha.1 hb.1 _ (Nat.le_refl _) (by omega), List.take_length, h, List.take_length]
  · split
    · rename_i h
      have := norm_len_lt ha hb h
      unfold cmpN
      rw [if_neg (by omega), if_pos this]
    · have := norm_len_lt hb ha (by omega)
      unfold cmpN
      rw [if_neg (by omega), if_neg (by omega)]

theorem norm_ext {a b : List Nat} (ha : Norm a) (hb : Norm b) (h : val a = val b) : a = b := by
  rw [← ha.2, ← hb.2, h]

end Go.Proofs.Ytgnidjhfiagfnaa
