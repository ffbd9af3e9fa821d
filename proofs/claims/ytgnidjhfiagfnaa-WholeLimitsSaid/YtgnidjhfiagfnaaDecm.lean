/- Plain facts on decimal forms as lists of bytes. Conditions: none. -/
import Derived.Test.YtgnidjhfiagfnaaXb
namespace Go.Proofs.Ytgnidjhfiagfnaa
open Go.RowKit

/-- The bytes of a text. -/
def byt (s : ByteArray) : List Nat := s.data.toList.map UInt8.toNat
theorem byt_length (s : ByteArray) : (byt s).length = s.size := by
  unfold byt
  rw [List.length_map, Array.length_toList]
  rfl
theorem byt_lt (s : ByteArray) : ∀ x ∈ byt s, x < 256 := by
  intro x hx
  obtain ⟨y, _, rfl⟩ := List.mem_map.1 hx
  exact UInt8.toNat_lt y
theorem byt_inj {s t : ByteArray} (h : byt s = byt t) : s = t := by
  unfold byt at h
  have h1 : s.data.toList = t.data.toList := by
    have : Function.Injective UInt8.toNat := fun a b e => UInt8.toNat_inj.1 e
    exact (List.map_inj_right (fun a b e => this e)).1 h
  cases s; cases t
  simp at h1
  simp [h1]
theorem byt_str {l : List Nat} (h : ∀ x ∈ l, x < 256) : byt (strOfNums (asInts l)) = l := by
  unfold byt asInts
  rw [strOfNums_data, List.map_map, List.map_map]
  conv => rhs; rw [← List.map_id l]
  refine List.map_congr_left fun x hx => ?_
  have := h x hx
  simp
  omega
theorem byt_nth (s : ByteArray) (k : Nat) (h : k < s.size) : nth (byt s) k = s[k].toNat := by
  unfold nth byt
  have h2 : k < s.data.size := h
  rw [List.getD_eq_getElem?_getD, List.getElem?_map, Array.getElem?_toList, Array.getElem?_eq_getElem h2]
  rfl

/-- The value of a decimal form, from the most significant digit on. -/
def decM (v : Nat) (l : List Nat) : Nat := l.foldl (fun a x => a * 10 + (x - 48)) v
theorem decM_nil (v : Nat) : decM v [] = v := by unfold decM; rw [List.foldl_nil]
theorem decM_cons (v x : Nat) (l : List Nat) : decM v (x :: l) = decM (v * 10 + (x - 48)) l := by unfold decM; rw [List.foldl_cons]
theorem decM_append (v : Nat) (l m : List Nat) : decM v (l ++ m) = decM (decM v l) m := by unfold decM; rw [List.foldl_append]
theorem decM_acc (v : Nat) (l : List Nat) : decM v l = v * 10 ^ l.length + decM 0 l := by
  induction l generalizing v with
  | nil => simp [decM]
  | cons x l ih =>
    rw [decM_cons, ih, decM_cons, ih (0 * 10 + (x - 48)), List.length_cons, Nat.pow_succ]
    generalize 10 ^ l.length = p
    grind
/-- They are digits. -/
def Dg (l : List Nat) : Prop := ∀ x ∈ l, 48 ≤ x ∧ x ≤ 57
theorem dg_take {l : List Nat} (h : Dg l) (k : Nat) : Dg (l.take k) := fun x hx => h x (List.mem_of_mem_take hx)
theorem dg_drop {l : List Nat} (h : Dg l) (k : Nat) : Dg (l.drop k) := fun x hx => h x (List.mem_of_mem_drop hx)
theorem decM_lt {l : List Nat} (h : Dg l) : decM 0 l < 10 ^ l.length := by
  induction l with
  | nil => simp [decM]
  | cons x l ih =>
    have h1 := h x (by simp)
    have h2 := ih (fun y hy => h y (by simp [hy]))
    rw [decM_cons, decM_acc, List.length_cons, Nat.pow_succ]
    have h3 : (0 * 10 + (x - 48)) * 10 ^ l.length ≤ 9 * 10 ^ l.length := Nat.mul_le_mul_right _ (by omega)
    omega
theorem decM_dval (l : List Nat) : decM 0 l = dval ((l.map (· - 48)).reverse) := by
  induction l with
  | nil => rfl
  | cons x l ih =>
    rw [decM_cons, decM_acc, List.map_cons, List.reverse_cons, dval_snoc, ← ih]
    simp
    rw [Nat.mul_comm]
    omega
theorem decM_take_succ (l : List Nat) (k : Nat) (h : k < l.length) : decM 0 (l.take (k + 1)) = decM 0 (l.take k) * 10 + (nth l k - 48) := by
  rw [take_snoc_getD l h, decM_append, decM_cons, decM_nil]

/-- It is a decimal form without a sign. -/
def IsDec (l : List Nat) : Prop := l ≠ [] ∧ (nth l 0 ≠ 48 ∨ l = [48]) ∧ Dg l

theorem decs_of_dg {l : List Nat} (h : Dg l) : Decs ((l.map (· - 48)).reverse) := by
  intro x hx
  rw [List.mem_reverse] at hx
  obtain ⟨y, hy, rfl⟩ := List.mem_map.1 hx
  have := h y hy
  omega

theorem isDec_form {l : List Nat} (h : IsDec l) : ((tens (decM 0 l)).map (48 + ·)).reverse = l := by
  obtain ⟨h1, h2, h3⟩ := h
  have back : ((((l.map (· - 48)).reverse)).map (48 + ·)).reverse = l := by
    rw [List.map_reverse, List.reverse_reverse, List.map_map]
    conv => rhs; rw [← List.map_id l]
    refine List.map_congr_left fun x hx => ?_
    have := h3 x hx
    simp
    omega
  rcases h2 with h2 | rfl
  · have hd : DNorm ((l.map (· - 48)).reverse) := by
      refine dnorm_of_last (decs_of_dg h3) (.inr ?_)
      cases l with
      | nil => exact absurd rfl h1
      | cons x l =>
        have hx := h3 x (by simp)
        have hx2 : x ≠ 48 := h2
        simp [List.getD_eq_getElem?_getD]
        omega
    have hne : dval ((l.map (· - 48)).reverse) ≠ 0 := by
      intro e
      have := hd.2
      rw [e, ddigs_zero] at this
      cases l with
      | nil => exact h1 rfl
      | cons x l => simp at this
    rw [decM_dval]
    unfold tens
    rw [if_neg hne, hd.2]
    exact back
  · rfl

theorem form_isDec (n : Nat) : IsDec (((tens n).map (48 + ·)).reverse) ∧ decM 0 (((tens n).map (48 + ·)).reverse) = n := by
  have hv : decM 0 (((tens n).map (48 + ·)).reverse) = n := by
    rw [decM_dval, List.map_reverse, List.reverse_reverse, List.map_map]
    have e : (tens n).map ((fun x => x - 48) ∘ fun x => 48 + x) = tens n := by
      conv => rhs; rw [← List.map_id (tens n)]
      refine List.map_congr_left fun x _ => ?_
      simp
    rw [e]
    unfold tens
    split
    · subst_vars; rfl
    · exact dval_digs n
  refine ⟨⟨?_, ?_, ?_⟩, hv⟩
  · intro e
    have := tens_pos n
    have h2 := congrArg List.length e
    simp at h2
    rw [h2] at this
    simp at this
  · by_cases h0 : n = 0
    · right; subst h0; rfl
    · left
      have hl := dnorm_last (dnorm_digs n) (fun e => h0 (ddigs_eq_nil.1 e))
      unfold tens
      rw [if_neg h0]
      have hne : ddigs n ≠ [] := fun e => h0 (ddigs_eq_nil.1 e)
      generalize ddigs n = l at *
      rcases List.eq_nil_or_concat l with rfl | ⟨a, x, rfl⟩
      · exact absurd rfl hne
      · simp [List.getD_eq_getElem?_getD] at hl
        simp [nth, List.getD_eq_getElem?_getD]
        omega
  · intro x hx
    rw [List.mem_reverse] at hx
    obtain ⟨y, hy, rfl⟩ := List.mem_map.1 hx
    have := tens_lt n y hy
    omega
end Go.Proofs.Ytgnidjhfiagfnaa
