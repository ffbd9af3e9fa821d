/- Plain facts on long division: the normal divisor, and what holds between two digits. Conditions: none. -/
import Derived.Test.YtgnidjhfiagfnaaYf
namespace Go.Proofs.Ytgnidjhfiagfnaa
open Go.RowKit

theorem val_split (l : List Nat) (k : Nat) (h : k ≤ l.length) : val l = val (l.take k) + 65536 ^ k * val (l.drop k) := by
  have := val_append (l.take k) (l.drop k)
  rwa [List.take_append_drop, List.length_take, Nat.min_eq_left h] at this
theorem val_take_le (l : List Nat) (k : Nat) : val (l.take k) ≤ val l := by
  by_cases h : k ≤ l.length
  · have := val_split l k h; omega
  · rw [List.take_of_length_le (by omega)]; exact Nat.le_refl _
theorem val_take_lt {l : List Nat} (h : Limbs l) (k : Nat) : val (l.take k) < 65536 ^ k := by
  have := low_lt h 0 k
  simpa using this

theorem norm_up {lb yb : List Nat} {s p tp : Nat} (h : Up lb s (p + 2) (p + 2) yb) (hl : lb.length = p + 2) (hL : Limbs lb) (ht : nth lb (p + 1) = tp) (h1 : 32768 ≤ tp * 2 ^ s) (h2 : (tp + 1) * 2 ^ s ≤ 65536) :
    (yb.take (p + 2)).length = p + 2 ∧ val (yb.take (p + 2)) = val lb * 2 ^ s ∧ 32768 ≤ nth (yb.take (p + 2)) (p + 1) ∧ 65536 ^ (p + 1) * 32768 ≤ val (yb.take (p + 2)) := by
  have e1 : val lb = val (lb.take (p + 1)) + 65536 ^ (p + 1) * tp := by
    have := take_val_succ lb (p + 1)
    rw [List.take_of_length_le (by omega), ht] at this
    exact this
  have l1 := val_take_lt hL (p + 1)
  have e2 := h.eq
  rw [take_val_succ, List.take_of_length_le (by omega : lb.length ≤ p + 2)] at e2
  have e3 : 65536 ^ (p + 2) = 65536 ^ (p + 1) * 65536 := Nat.pow_succ ..
  rw [e3] at e2
  have e4 := take_val_succ yb (p + 1)
  have l4 := val_take_lt h.limbs (p + 1)
  have hn : nth (yb.take (p + 2)) (p + 1) = nth yb (p + 1) := nth_take _ (by omega)
  rw [hn]
  generalize 65536 ^ (p + 1) = B at *
  generalize val (lb.take (p + 1)) = lo at *
  generalize val (yb.take (p + 1)) = lo2 at *
  generalize nth yb (p + 1) = t2 at *
  rw [e4] at e2
  have hP : 0 < 2 ^ s := Nat.two_pow_pos s
  generalize 2 ^ s = P at *
  rw [e1] at e2 ⊢
  have f1 : (lo + B * tp) * P < B * 65536 := by
    have a1 : (lo + B * tp) < B * (tp + 1) := by have : B * (tp + 1) = B * tp + B := by grind
                                                 omega
    have a2 : (lo + B * tp) * P < B * (tp + 1) * P := Nat.mul_lt_mul_of_pos_right a1 hP
    have a3 : B * (tp + 1) * P ≤ B * 65536 := by rw [Nat.mul_assoc]; exact Nat.mul_le_mul_left _ h2
    omega
  have f2 : nth yb (p + 2) = 0 := by
    rcases Nat.eq_zero_or_pos (nth yb (p + 2)) with h | h
    · exact h
    · have : B * 65536 * 1 ≤ B * 65536 * nth yb (p + 2) := Nat.mul_le_mul_left _ h
      omega
  rw [f2] at e2
  have f3 : B * 32768 ≤ (lo + B * tp) * P := by
    have a1 : B * (tp * P) ≤ (lo + B * tp) * P := by rw [← Nat.mul_assoc]; exact Nat.mul_le_mul_right _ (by omega)
    have := Nat.mul_le_mul_left B h1
    omega
  refine ⟨by rw [List.length_take, h.len]; omega, ?_, ?_, ?_⟩
  · rw [e4]; omega
  · rcases Nat.lt_or_ge t2 32768 with h | h
    · have : B * (t2 + 1) ≤ B * 32768 := Nat.mul_le_mul_left _ h
      have e5 : B * (t2 + 1) = B * t2 + B := by grind
      omega
    · exact h
  · rw [e4]; omega

/-- Digits from k on are found: they are Q; ys is what is left. -/
structure DivInv (ya D : List Nat) (nq k : Nat) (ys Q : List Nat) : Prop where
  len : ys.length = ya.length
  limbs : Limbs ys
  qlen : Q.length + k = nq
  qlimbs : Limbs Q
  eq : val ys + 65536 ^ k * (val Q * val D) = val ya
  lt : val (ys.drop k) < val D

theorem DivInv.start {la ya D : List Nat} {s na nq p : Nat} (h : Up la s na na ya) (hl : la.length = na) (hL : Limbs la) (hs : s ≤ 15) (hn : nq + (p + 2) = na + 1) (hD : 65536 ^ (p + 1) * 32768 ≤ val D) : DivInv ya D nq nq ya [] := by
  refine ⟨rfl, h.limbs, by simp, limbs_nil, by simp [val], ?_⟩
  have e := h.eq
  rw [List.take_of_length_le (by rw [h.len]; exact Nat.le_refl _), List.take_of_length_le (by omega)] at e
  have e2 := val_split ya nq (by rw [h.len]; omega)
  have l1 := val_lt hL
  rw [hl] at l1
  have hP : 2 ^ s ≤ 32768 := Nat.le_trans (Nat.pow_le_pow_right (by omega) hs) (by decide)
  have hP0 : 0 < 2 ^ s := Nat.two_pow_pos s
  have e3 : 65536 ^ na = 65536 ^ nq * 65536 ^ (p + 1) := by rw [← Nat.pow_add]; congr 1; omega
  have f1 : val la * 2 ^ s < 65536 ^ na * 2 ^ s := Nat.mul_lt_mul_of_pos_right l1 hP0
  have f2 : 65536 ^ na * 2 ^ s ≤ 65536 ^ na * 32768 := Nat.mul_le_mul_left _ hP
  rw [e3] at f1 f2
  have f3 : 65536 ^ nq * val (ya.drop nq) < 65536 ^ nq * (65536 ^ (p + 1) * 32768) := by
    rw [← Nat.mul_assoc]
    omega
  have f4 := Nat.lt_of_mul_lt_mul_left f3
  omega

theorem DivInv.seg {ya D ys Q : List Nat} {nq k : Nat} (h : DivInv ya D nq (k + 1) ys Q) (hk : k < ys.length) (n : Nat) : val ((ys.drop k).take n) < 65536 * val D := by
  have h1 := val_take_le (ys.drop k) n
  have h2 := val_drop hk
  have h3 := h.lt
  have h4 := nth_lt h.limbs k
  omega

theorem DivInv.step {ya D ys zs Q : List Nat} {nq k p q : Nat} (h : DivInv ya D nq (k + 1) ys Q) (hk : k + (p + 3) ≤ ys.length) (hD : D.length = p + 2) (hLD : Limbs D) (hq : q < 65536) (hs : Stepped ys D k (p + 2) q zs) : DivInv ya D nq k zs (q :: Q) := by
  have hkl : k < ys.length := by omega
  have hVB : val D < 65536 ^ (p + 2) := by have := val_lt hLD; rwa [hD] at this
  have hz : val (ys.drop (k + (p + 3))) = 0 := by
    have e := val_split (ys.drop (k + 1)) (p + 2) (by rw [List.length_drop]; omega)
    rw [List.drop_drop, show k + 1 + (p + 2) = k + (p + 3) by omega] at e
    have := h.lt
    rcases Nat.eq_zero_or_pos (val (ys.drop (k + (p + 3)))) with h | h
    · exact h
    · have : 65536 ^ (p + 2) * 1 ≤ 65536 ^ (p + 2) * val (ys.drop (k + (p + 3))) := Nat.mul_le_mul_left _ h
      omega
  have hzs : zs.drop (k + (p + 3)) = ys.drop (k + (p + 3)) := by
    refine list_ext (by simp [hs.len]) (fun j hj => ?_)
    rw [nth_drop, nth_drop]
    exact hs.same _ (Or.inr (by omega))
  have htk : zs.take k = ys.take k := by
    refine list_ext (by simp [hs.len]) (fun j hj => ?_)
    have hj' : j < k := by simp at hj; omega
    rw [nth_take _ hj', nth_take _ hj']
    exact hs.same _ (Or.inl hj')
  have e1 := val_split (ys.drop k) (p + 3) (by rw [List.length_drop]; omega)
  rw [List.drop_drop, hz] at e1
  have e2 := val_split (zs.drop k) (p + 3) (by rw [List.length_drop, hs.len]; omega)
  rw [List.drop_drop, hzs, hz] at e2
  have e3 := val_split ys k (by omega)
  have e4 := val_split zs k (by rw [hs.len]; omega)
  rw [htk] at e4
  have e5 : val ((zs.drop k).take (p + 3)) + q * val D = val ((ys.drop k).take (p + 3)) := hs.eq
  have e6 : val ((zs.drop k).take (p + 3)) < val D := hs.lt
  refine ⟨by rw [hs.len, h.len], hs.limbs, by have := h.qlen; simp; omega, by rw [limbs_cons]; exact ⟨hq, h.qlimbs⟩, ?_, by omega⟩
  have e7 := h.eq
  rw [← e7, e3, e4, Nat.pow_succ]
  simp only [val]
  rw [show val (ys.drop k) = val (zs.drop k) + q * val D by omega]
  generalize 65536 ^ k = B
  generalize val (zs.drop k) = z
  generalize val (ys.take k) = t
  generalize val D = V
  generalize val Q = u
  grind

theorem DivInv.done {ya D ys Q la lb : List Nat} {nq s : Nat} (h : DivInv ya D nq 0 ys Q) (hD : val D = val lb * 2 ^ s) (ha : val ya = val la * 2 ^ s) : val Q = val la / val lb ∧ val ys / 2 ^ s = val la % val lb := by
  have hP : 0 < 2 ^ s := Nat.two_pow_pos s
  have e := h.eq
  have hl := h.lt
  rw [List.drop_zero, hD] at hl
  rw [hD, ha, Nat.pow_zero, Nat.one_mul] at e
  generalize 2 ^ s = P at *
  generalize val la = a at *
  generalize val lb = b at *
  generalize val Q = q at *
  generalize val ys = y at *
  have hb : 0 < b := by
    rcases Nat.eq_zero_or_pos b with h | h
    · subst h; simp at hl
    · exact h
  have e1 : q * b * P ≤ a * P := by rw [Nat.mul_assoc]; omega
  have e2 : q * b ≤ a := Nat.le_of_mul_le_mul_right e1 hP
  obtain ⟨r, hr⟩ := Nat.exists_eq_add_of_le e2
  have e3 : y = r * P := by
    have : a * P = q * (b * P) + r * P := by rw [hr]; grind
    omega
  have e4 : r < b := by
    rw [e3] at hl
    exact Nat.lt_of_mul_lt_mul_right hl
  have e5 : y / P = r := by rw [e3]; exact Nat.mul_div_cancel _ hP
  rw [e5, hr, Nat.mul_comm q b]
  constructor
  · rw [Nat.mul_add_div hb, Nat.div_eq_of_lt e4]; omega
  · rw [Nat.mul_add_mod, Nat.mod_eq_of_lt e4]
end Go.Proofs.Ytgnidjhfiagfnaa
