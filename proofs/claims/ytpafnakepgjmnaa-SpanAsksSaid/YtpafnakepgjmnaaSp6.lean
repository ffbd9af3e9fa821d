/- The numbers of days of combinations. Plain mathematics. -/
import Derived.Test.YtpafnakepgjmnaaSv
namespace Go.Proofs.Ytpafnakepgjmnaa

theorem cnt_norm (p : Int → Bool) : lenSum (norm p) = cnt p 65536 := by
  rw [← (norm_set p).cnt_all]
  refine cnt_congr fun x hx => ?_
  rw [norm_mem, decide_eq_true (show (0 : Int) ≤ (x : Int) by omega), decide_eq_true (show (x : Int) < 65536 by omega)]
  simp
theorem cnt_three (p q : Int → Bool) (n : Nat) : cnt (fun x => p x && !q x) n + cnt (fun x => q x && !p x) n + cnt (fun x => p x && q x) n = cnt (fun x => p x || q x) n := by
  induction n with
  | zero => rfl
  | succ n ih =>
    simp only [cnt]
    cases hp : p n <;> cases hq : q n <;> simp <;> omega
theorem cnt_two (p q : Int → Bool) (n : Nat) : cnt (fun x => p x && !q x) n + cnt (fun x => q x && p x) n = cnt p n := by
  induction n with
  | zero => rfl
  | succ n ih =>
    simp only [cnt]
    cases hp : p n <;> cases hq : q n <;> simp <;> omega
section
variable {a b : List Sp}
theorem sum_or_and (ha : IsSet a) (hb : IsSet b) : lenSum (combL orB a b) + lenSum (combL andB a b) = lenSum a + lenSum b := by
  unfold combL
  rw [cnt_norm, cnt_norm, ← ha.cnt_all, ← hb.cnt_all]
  exact cnt_and_or _ _ _
theorem sum_three (a b : List Sp) : lenSum (combL butB a b) + lenSum (combL butB b a) + lenSum (combL andB a b) = lenSum (combL orB a b) := by
  unfold combL
  rw [cnt_norm, cnt_norm, cnt_norm, cnt_norm]
  exact cnt_three _ _ _
theorem sum_two (hb : IsSet b) : lenSum (combL butB b a) + lenSum (combL andB a b) = lenSum b := by
  unfold combL
  rw [cnt_norm, cnt_norm, ← hb.cnt_all]
  exact cnt_two _ _ _
theorem sum_zero {l : List Sp} (h : IsSet l) : lenSum l = 0 ↔ l = [] := by
  constructor
  · intro h0
    have := (SetFrom.sum_bd h (by omega)).2.2
    exact List.eq_nil_of_length_eq_zero (by omega)
  · rintro rfl; rfl
theorem within_len (a b : List Sp) : withinB a b = (((combL butB a b).length : Int) == 0) := by
  show (combL butB a b).isEmpty = _
  cases combL butB a b with
  | nil => rfl
  | cons s l =>
    rw [List.isEmpty_cons, eq_comm, beq_eq_false_iff_ne, List.length_cons]
    omega
theorem within_sum (hb : IsSet b) : withinB b a = (lenSum (combL andB a b) == lenSum b) := by
  have h2 := sum_two (a := a) hb
  rw [within_len, Bool.eq_iff_iff, beq_iff_eq, beq_iff_eq]
  have hz := sum_zero (l := combL butB b a) (norm_set _)
  constructor
  · intro h
    have : combL butB b a = [] := List.eq_nil_of_length_eq_zero (by omega)
    have := hz.2 this
    omega
  · intro h
    have := hz.1 (by omega)
    rw [this]; rfl
theorem within_of {p : Int → Bool} (hb : ∀ x, p x = true → memB b x = true) : withinB (norm p) b = true := by
  refine (withinB_true (norm_set _)).2 fun x hx => ?_
  rw [norm_mem] at hx
  cases hp : p x with
  | true => exact hb x hp
  | false => rw [hp] at hx; cases hx
theorem within_norm {p : Int → Bool} (ha : IsSet a) (h : ∀ x, memB a x = true → p x = true) : withinB a (norm p) = true := by
  refine (withinB_true ha).2 fun x hx => ?_
  have := ha.mem hx
  rw [norm_mem, h x hx]; simp [this]
end
end Go.Proofs.Ytpafnakepgjmnaa
