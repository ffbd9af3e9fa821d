/- Texts of long numbers: those that are read, and those that are too long. Conditions: named in each theorem. -/
import Derived.Test.YtgnidjhfiagfnaaRa
import Derived.Test.YtgnidjhfiagfnaaXw
import Derived.Test.YtgnidjhfiagfnaaTxts
namespace Go.Proofs.Ytgnidjhfiagfnaa
open Go.RowKit

theorem sl_some {w : World} {A : Option Addr} {n c : Nat} {l : List Nat} (h : Sl w (.slice A n c) l) (hn : l.length = n) (h0 : 0 < n) : ∃ b off, A = some ⟨b, off, none⟩ ∧ n ≤ c ∧ n ≤ 70368744177664 := by
  obtain ⟨hl, hm, A', c', e, h1, h2, hA⟩ := h
  injection e with e1 e2 e3
  subst e1 e3
  obtain ⟨b', off', e, h3, h4⟩ := hA (by intro e; subst e; simp at hn; omega)
  exact ⟨b', off', e, by omega, by omega⟩

theorem textZ_abs (s : ByteArray) : (textZ s).natAbs = decM 0 (byt (unsigned s)) := by
  unfold textZ
  split
  · rw [Int.natAbs_neg, Int.natAbs_natCast]
  · rw [Int.natAbs_natCast]

theorem parse_yes2 {s : ByteArray} {w : World} (hs2 : (unsigned s).size ≤ 4933) (h : textB s = true) (hl : Lz 1024 (textZ s)) :
    Calls Try.prog 23 #[.string s] w fun e w' => ∃ v, e = .returned (.tuple #[v, .int .i64 0]) ∧ WhZ w' v (textZ s) ∧ Below w.heap.size w w' := by
  unfold textB at h
  simp only [Bool.and_eq_true] at h
  have hn : (digs (decM 0 (byt (unsigned s)))).length ≤ 1024 := by rw [← textZ_abs]; exact hl
  cases hg : signedB s with
  | false =>
    have e : textZ s = ((decM 0 (byt (unsigned s)) : Nat) : Int) := by unfold textZ; rw [hg]; rfl
    rw [e]
    exact parse_ok_false s (unsigned s) (signedB s) w (fun W => cut_any s W) (by omega) h.1 hg hs2 hn
  | true =>
    have e : textZ s = -((decM 0 (byt (unsigned s)) : Nat) : Int) := by unfold textZ; rw [hg]; rfl
    rw [e]
    have h48 : byt (unsigned s) ≠ [48] := by
      have := h.2
      rw [hg] at this
      simpa using this
    exact parse_ok_true s (unsigned s) (signedB s) w (fun W => cut_any s W) (by omega) h.1 hg h48 hs2 hn

theorem parse_over {s : ByteArray} {w : World} (hsz : s.size ≤ 4611686018427387904) (h : textB s = true) (hl : ¬ Lz 1024 (textZ s)) :
    Calls Try.prog 23 #[.string s] w fun e w' => ∃ v, e = .returned (.tuple #[v, .int .i64 3]) ∧ WhZ w' v 0 ∧ Below w.heap.size w w' := by
  have hs2 : (unsigned s).size ≤ 4611686018427387904 := Nat.le_trans (unsigned_size s) hsz
  unfold textB at h
  simp only [Bool.and_eq_true] at h
  have hn : 1024 < (digs (decM 0 (byt (unsigned s)))).length := by rw [← textZ_abs]; exact Nat.lt_of_not_le hl
  cases hg : signedB s with
  | false =>
    by_cases hd : (unsigned s).size ≤ 4933
    · exact parse_much_false s (unsigned s) (signedB s) w (fun W => cut_any s W) hs2 h.1 hg hd hn
    · exact parse_long_false s (unsigned s) (signedB s) w (fun W => cut_any s W) hs2 h.1 hg (by omega)
  | true =>
    have h48 : byt (unsigned s) ≠ [48] := by
      have := h.2
      rw [hg] at this
      simpa using this
    by_cases hd : (unsigned s).size ≤ 4933
    · exact parse_much_true s (unsigned s) (signedB s) w (fun W => cut_any s W) hs2 h.1 hg h48 hd hn
    · exact parse_long_true s (unsigned s) (signedB s) w (fun W => cut_any s W) hs2 h.1 hg h48 (by omega)

theorem big_pow : 65536 ^ 1024 ≤ 10 ^ 4933 := of_decide_eq_true (by kernel_rfl)
theorem big_pow2 : 65536 ^ (1024 + 1) ≤ 10 ^ 200 * 65536 ^ 999 := of_decide_eq_true (by kernel_rfl)

/-- The text of a number with at most 1024 limbs. -/
theorem long_text {x : Bool} {l : List Nat} (hl : Limbs l) (hv : validB x l = true) {S : ByteArray} (hS : strOfNums (asInts (form x (val l))) = S) :
    textB S = true ∧ textZ S = zv x l ∧ (unsigned S).size ≤ 4933 ∧ byt S = form x (val l) ∧ S.size ≤ 5200 := by
  have hn := valid_norm hl hv
  have hf := text_forth x (val l) hn.2.2
  have hfa := text_facts hl hv (k := 1024) hn.2.1 hS
  rw [hS] at hf
  refine ⟨hf.1, by rw [hf.2.1]; rfl, ?_, hf.2.2, by omega⟩
  have hlt : val l < 10 ^ 4933 := Nat.lt_of_lt_of_le (Nat.lt_of_lt_of_le (val_lt hl) (Nat.pow_le_pow_right (by decide) hn.2.1)) big_pow
  have ht := tens_len (val l) hlt (by decide)
  have hle : (byt (unsigned S)).length ≤ (tens (val l)).length := by
    rw [unsigned_byt, signedB_byt, hf.2.2]
    unfold form
    cases x with
    | true => simp
    | false =>
      simp only [Bool.false_eq_true, if_false, List.nil_append]
      split
      · rw [List.length_tail, List.length_reverse, List.length_map]; exact Nat.sub_le ..
      · rw [List.length_reverse, List.length_map]; exact Nat.le_refl _
  rw [byt_length] at hle
  exact Nat.le_trans hle ht

/-- A text with zeros behind it. -/
theorem zeros_text {x : Bool} {n j : Nat} (hn : n ≠ 0) {S T : ByteArray} (hS : byt S = form x (n * 10 ^ j)) (hT : byt T = byt S ++ [48]) : byt T = form x (n * 10 ^ (j + 1)) := by
  have h := form_more (x := x) (n := n * 10 ^ j) (d := 0) (Nat.mul_ne_zero hn (Nat.ne_of_gt (Nat.pow_pos (by omega)))) (by omega)
  rw [hT, hS, Nat.pow_succ, ← Nat.mul_assoc]
  exact h.symm

theorem pow_up (k : Nat) : 65536 ^ k ≤ 65536 ^ (k + 1) := Nat.pow_le_pow_right (by decide) (Nat.le_succ k)
theorem pow_mono {a b : Nat} (h : a ≤ b) : 65536 ^ a ≤ 65536 ^ b := Nat.pow_le_pow_right (by decide) h
theorem pow_not_le (k : Nat) : ¬ 65536 ^ k ≤ 0 := Nat.not_le.2 (Nat.pow_pos (by decide))
theorem ne_of_pow {k n : Nat} (h : 65536 ^ k ≤ n) : n ≠ 0 := fun e => pow_not_le k (e ▸ h)
theorem not_lt_of (a b c d : Nat) (h1 : b ≤ c) (h2 : c ≤ d) (h3 : d ≤ a) : ¬ a < b := by omega
theorem scale_le (n P Q : Nat) (h : P ≤ n) : Q * P ≤ n * Q := by rw [Nat.mul_comm Q]; exact Nat.mul_le_mul_right _ h

theorem zeros_over {x : Bool} {n : Nat} (hn : 65536 ^ 999 ≤ n) {T : ByteArray} (hT : byt T = form x (n * 10 ^ 200)) : textB T = true ∧ ¬ Lz 1024 (textZ T) := by
  have h0 : n * 10 ^ 200 ≠ 0 := Nat.mul_ne_zero (Nat.ne_of_gt (Nat.lt_of_lt_of_le (Nat.pow_pos (by decide)) hn)) (Nat.ne_of_gt (Nat.pow_pos (by omega)))
  have hf := text_forth x (n * 10 ^ 200) (fun _ => h0)
  have e : strOfNums (asInts (form x (n * 10 ^ 200))) = T := byt_inj (by rw [hf.2.2, hT])
  rw [e] at hf
  refine ⟨hf.1, ?_⟩
  rw [hf.2.1, lz_iff]
  have h1 := scale_le n (65536 ^ 999) (10 ^ 200) hn
  have h2 := big_pow2
  have h3 := pow_up 1024
  have h4 : (if x = true then -((n * 10 ^ 200 : Nat) : Int) else ((n * 10 ^ 200 : Nat) : Int)).natAbs = n * 10 ^ 200 := by cases x <;> simp only [if_true, if_false, Bool.false_eq_true, Int.natAbs_neg, Int.natAbs_natCast]
  rw [h4]
  exact not_lt_of _ _ _ _ h3 h2 h1
end Go.Proofs.Ytgnidjhfiagfnaa
