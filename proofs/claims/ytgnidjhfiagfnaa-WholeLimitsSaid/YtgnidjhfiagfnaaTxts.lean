/- Plain facts on the texts of numbers, for the law on texts. Conditions: none. -/
import Derived.Test.YtgnidjhfiagfnaaXw
namespace Go.Proofs.Ytgnidjhfiagfnaa
open Go.RowKit

theorem form_length (x : Bool) (n k : Nat) (h : n < 10 ^ k) (hk : 0 < k) : (form x n).length ≤ k + 1 := by
  unfold form
  have := tens_len n h hk
  rw [List.length_append, List.length_reverse, List.length_map]
  cases x <;> simp <;> omega

theorem text_facts {x : Bool} {l : List Nat} (hl : Limbs l) (hv : validB x l = true) {k : Nat} (hk : l.length ≤ k) {S : ByteArray} (hS : strOfNums (asInts (form x (val l))) = S) :
    textB S = true ∧ textZ S = zv x l ∧ S.size ≤ 5 * k + 2 ∧ byt S = form x (val l) := by
  have hn := valid_norm hl hv
  have hf := text_forth x (val l) hn.2.2
  rw [hS] at hf
  refine ⟨hf.1, ?_, ?_, hf.2.2⟩
  · rw [hf.2.1]; rfl
  · have h1 : val l < 10 ^ (5 * k + 1) := by
      have h2 := pow_tens (Nat.lt_of_lt_of_le (val_lt hl) (Nat.pow_le_pow_right (by omega) hk))
      exact Nat.lt_of_lt_of_le h2 (Nat.pow_le_pow_right (by omega) (by omega))
    have h3 := form_length x (val l) _ h1 (by omega)
    rw [← hf.2.2, byt_length] at h3
    omega

theorem form_first {x : Bool} {n : Nat} {S : ByteArray} (h : byt S = form x n) : 0 < S.size ∧ ∀ h0 : 0 < S.size, (((S[0].toNat : Int) == 45) = x) := by
  have hf := form_isDec n
  have hne : 0 < S.size := by
    rw [← byt_length, h]
    unfold form
    rw [List.length_append, List.length_reverse, List.length_map]
    have := tens_pos n
    omega
  refine ⟨hne, fun h0 => ?_⟩
  have e := byt_nth S 0 h0
  rw [h] at e
  rw [← e]
  cases x
  · have h1 : nth (form false n) 0 ∈ ((tens n).map (48 + ·)).reverse := by
      have e2 : form false n = ((tens n).map (48 + ·)).reverse := by unfold form; simp
      rw [e2]
      unfold nth
      have hlen : 0 < (((tens n).map (48 + ·)).reverse).length := by have := tens_pos n; simpa using this
      rw [List.getD_eq_getElem?_getD, List.getElem?_eq_getElem hlen]
      exact List.getElem_mem _
    have h2 := hf.1.2.2 _ h1
    rw [beq_eq_false_iff_ne]
    omega
  · rfl

theorem tens_more {n d : Nat} (hn : n ≠ 0) (hd : d < 10) : tens (n * 10 + d) = d :: tens n := by
  unfold tens
  rw [if_neg (by omega), if_neg hn, ddigs_pos (by omega), show (n * 10 + d) % 10 = d by omega, show (n * 10 + d) / 10 = n by omega]
theorem form_more {x : Bool} {n d : Nat} (hn : n ≠ 0) (hd : d < 10) : form x (n * 10 + d) = form x n ++ [48 + d] := by
  unfold form
  rw [tens_more hn hd]
  simp

theorem text_more {x : Bool} {l : List Nat} {d : Nat} (hl : Limbs l) (hv : validB x l = true) (h0 : l ≠ []) (hd : d < 10) {S T : ByteArray} (hS : byt S = form x (val l)) (hT : byt T = byt S ++ [48 + d]) :
    textB T = true ∧ textZ T = zv x l * 10 + (if x then -(d : Int) else (d : Int)) := by
  have hn := valid_norm hl hv
  have hne : val l ≠ 0 := by
    intro e
    have h1 := hn.1.2
    rw [e, digs_zero] at h1
    exact h0 h1.symm
  have hf := text_forth x (val l * 10 + d) (fun _ => by omega)
  have hTT : strOfNums (asInts (form x (val l * 10 + d))) = T := by
    apply byt_inj
    rw [hf.2.2, hT, hS, form_more hne hd]
  rw [hTT] at hf
  refine ⟨hf.1, ?_⟩
  rw [hf.2.1]
  unfold zv
  cases x <;> simp <;> omega

theorem text_lz {s : ByteArray} (h : textB s = true) {k m : Nat} (hk : s.size ≤ k) (hkm : k ≤ 4 * m) : Lz m (textZ s) := by
  have hz : (textZ s).natAbs = decM 0 (byt (unsigned s)) := by
    unfold textZ
    split
    · rw [Int.natAbs_neg, Int.natAbs_natCast]
    · rw [Int.natAbs_natCast]
  unfold textB at h
  simp only [Bool.and_eq_true] at h
  have h1 := decM_lt ((isDecB_iff _).1 h.1).2.2
  rw [byt_length] at h1
  unfold Lz
  rw [hz]
  exact digs_of_tens h1 (by have := unsigned_size s; omega)

theorem text_same {s T : ByteArray} (h : textB s = true) (hT : strOfNums (asInts (form (decide (textZ s < 0)) (textZ s).natAbs)) = T) : T = s := by
  apply byt_inj
  rw [← hT, byt_str]
  · exact text_back h
  · intro y hy
    rw [text_back h] at hy
    exact byt_lt s y hy
end Go.Proofs.Ytgnidjhfiagfnaa
