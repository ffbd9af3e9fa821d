/- The sum of two multiples of numbers, and with it addition and subtraction of absolute values. Conditions: the sum is not negative; the factors are small enough for an int. -/
import Derived.Test.YtgnidjhfiagfnaaWe
namespace Go.Proofs.Ytgnidjhfiagfnaa
open Go.RowKit

theorem val_take_succ (l : List Nat) (k : Nat) : val (l.take (k + 1)) = val (l.take k) + 65536 ^ k * nth l k := by
  rcases Nat.lt_or_ge k l.length with h | h
  · rw [take_snoc_getD l h, val_snoc, List.length_take, Nat.min_eq_left (by omega)]
  · rw [List.take_of_length_le (by omega), List.take_of_length_le h, nth_ge h]; omega

theorem put_step (L : List Nat) (k : Nat) (c u v x y va vb : Int) (hk : L.length = k) (h : (val L : Int) + 65536 ^ k * c = va * x + vb * y) :
    (val (L ++ [((c + (u * x + v * y)) % 65536).toNat]) : Int) + 65536 ^ (k + 1) * ((c + (u * x + v * y)) / 65536) = (va + 65536 ^ k * u) * x + (vb + 65536 ^ k * v) * y := by
  rw [val_snoc, hk]
  have e1 : (c + (u * x + v * y)) % 65536 + 65536 * ((c + (u * x + v * y)) / 65536) = c + (u * x + v * y) := by omega
  have e2 : (((c + (u * x + v * y)) % 65536).toNat : Int) = (c + (u * x + v * y)) % 65536 := Int.toNat_of_nonneg (Int.emod_nonneg _ (by omega))
  rw [Int.natCast_add, Int.natCast_mul, Int.natCast_pow, e2, Int.pow_succ, show ((65536 : Nat) : Int) = 65536 from rfl]
  generalize (c + (u * x + v * y)) % 65536 = r at *
  generalize (c + (u * x + v * y)) / 65536 = q at *
  generalize (65536 : Int) ^ k = p at *
  grind

theorem finish_val {L : List Nat} {k : Nat} {c z : Int} (hL : Limbs L) (hk : L.length = k) (hz : 0 ≤ z) (h : (val L : Int) + 65536 ^ k * c = z) : 0 ≤ c ∧ val L + 65536 ^ L.length * c.toNat = z.toNat := by
  have h1 := val_lt hL
  rw [hk] at h1 ⊢
  have h2 : 0 ≤ c := by
    by_cases h3 : c < 0
    · exfalso
      have h5 : ((65536 ^ k : Nat) : Int) = (65536 : Int) ^ k := by rw [Int.natCast_pow]; rfl
      have h4 : (65536 : Int) ^ k * c ≤ 65536 ^ k * (-1) := Int.mul_le_mul_of_nonneg_left (by omega) (by omega)
      omega
    · omega
  refine ⟨h2, ?_⟩
  obtain ⟨m, rfl⟩ := Int.eq_ofNat_of_zero_le h2
  have : ((val L + 65536 ^ k * m : Nat) : Int) = z := by
    rw [Int.natCast_add, Int.natCast_mul, Int.natCast_pow]; exact h
  simp only [Int.toNat_natCast]
  omega

/-- The factors keep every digit within an int. -/
def Fit (x y : Int) (m1 m2 : Nat) : Prop :=
  m1 ≤ 70368744177664 ∧ m2 ≤ 70368744177664 ∧ ∀ u v : Nat, u < 65536 → v < 65536 → -(65535 * (m1 : Int)) ≤ (u : Int) * x + v * y ∧ (u : Int) * x + v * y ≤ 65535 * (m2 : Int)

set_option maxRecDepth 100000 in
set_option maxHeartbeats 2000000 in
theorem combine_lt (la lb : List Nat) (A B : Option Addr) (na nb ca cb : Nat) (x y : Int) (m1 m2 : Nat) (w : World) (hna : Hid (la.length = na)) (hnb : Hid (lb.length = nb)) (ha : na ≤ 1099511627000) (hb : nb ≤ 1099511627000)
    (hla : Limbs la) (hlb : Limbs lb) (hA : At w A la) (hB : At w B lb) (hfit : Fit x y m1 m2) (z : Int) (hz : 0 ≤ z) (hval : Hid ((val la : Int) * x + val lb * y = z)) (hmx : na < nb) :
    Calls Try.prog 82 #[.slice A na ca, .int .i64 x, .slice B nb cb, .int .i64 y] w fun e w' => ∃ v, e = .returned v ∧ Sl w' v (digs z.toNat) ∧ Below w.heap.size w w' := by
  have HF : Hid (Fit x y m1 m2) := hfit
  have hm1 := hfit.1
  have hm2 := hfit.2.1
  clear hfit
  go_enter Try.func82, Try.ntmps82
  go_wp2_with (go_at_call 84; refine (collector_int _ _ (by omega) (by omega)).mono ?_; rintro e w1 ⟨P, C, S, rfl, hcol, hb1⟩)
  go_loopw [26] (fun i wr => ∃ (k : Nat) (c : Int) (L : List Nat), k ≤ nb ∧ i = .int .i64 k ∧ -(m1 : Int) ≤ c ∧ c ≤ m2 ∧ L.length ≤ nb ∧ Col wr w.heap.size P C S c L ∧ Below w.heap.size w wr ∧ Hid (Limbs L ∧ L.length = k ∧ (val L : Int) + 65536 ^ k * c = val (la.take k) * x + val (lb.take k) * y)) (fun i _ => nb - (intOf i).toNat)
  case atStart => exact ⟨0, 0, [], by omega, rfl, by omega, by omega, by simp, hcol, hb1, limbs_nil, rfl, by simp [val]⟩
  case round =>
    obtain ⟨k, c, L, hk, rfl, hc1, hc2, hL, hcol, hbel, H⟩ := hrel
    by_cases hlt : k < nb
    · have hu := nth_lt hla k
      have hv := nth_lt hlb k
      have hs1 := HF.out.2.2 _ _ hu hv
      have hs2 := HF.out.2.2 _ 0 hu (by omega)
      have hs3 := HF.out.2.2 0 _ (by omega) hv
      simp only [Int.natCast_zero, Int.zero_mul, Int.zero_add, Int.add_zero] at hs2 hs3
      have hLk : L.length ≤ k := by have := H.out.2.1; omega
      have H2 : ∀ _ : Unit, Hid (Limbs (L ++ [((c + ((nth la k : Int) * x + (nth lb k : Int) * y)) % 65536).toNat]) ∧ (L ++ [((c + ((nth la k : Int) * x + (nth lb k : Int) * y)) % 65536).toNat]).length = k + 1 ∧ (val (L ++ [((c + ((nth la k : Int) * x + (nth lb k : Int) * y)) % 65536).toNat]) : Int) + 65536 ^ (k + 1) * ((c + ((nth la k : Int) * x + (nth lb k : Int) * y)) / 65536) = val (la.take (k + 1)) * x + val (lb.take (k + 1)) * y) := by
        intro _
        refine ⟨limbs_append.2 ⟨H.out.1, by intro t ht; simp at ht; omega⟩, by rw [List.length_append, H.out.2.1]; rfl, ?_⟩
        rw [put_step L k c _ _ x y _ _ H.out.2.1 H.out.2.2, val_take_succ, val_take_succ, Int.natCast_add, Int.natCast_add, Int.natCast_mul, Int.natCast_mul, Int.natCast_pow]
        rfl
      have hlen : (L ++ [((c + ((nth la k : Int) * x + (nth lb k : Int) * y)) % 65536).toNat]).length ≤ nb := by rw [List.length_append]; simp; omega
      have hd1 : -(m1 : Int) ≤ (c + ((nth la k : Int) * x + (nth lb k : Int) * y)) / 65536 := by omega
      have hd2 : (c + ((nth la k : Int) * x + (nth lb k : Int) * y)) / 65536 ≤ m2 := by omega
      clear H
      have HL : Hid (-(m1 : Int) ≤ (c + ((nth la k : Int) * x + (nth lb k : Int) * y)) / 65536 ∧ (c + ((nth la k : Int) * x + (nth lb k : Int) * y)) / 65536 ≤ m2 ∧ (L ++ [((c + ((nth la k : Int) * x + (nth lb k : Int) * y)) % 65536).toNat]).length ≤ nb) := ⟨hd1, hd2, hlen⟩
      clear hd1 hd2 hlen
      have hkb := hlt
      by_cases hka : k < na
      · obtain ⟨bA, oA, rfl, lA, cA⟩ := hA.cells (by rw [hna.out]; omega)
        have xA := (hbel.cell (p := ⟨bA, oA + k, none⟩) lA).trans (cA k (by rw [hna.out]; exact hka))
        clear cA
        obtain ⟨bB, oB, rfl, lB, cB⟩ := hB.cells (by rw [hnb.out]; omega)
        have xB := (hbel.cell (p := ⟨bB, oB + k, none⟩) lB).trans (cB k (by rw [hnb.out]; exact hkb))
        clear cB
        go_wp2_with (go_at_call 94; refine (put_any w.heap.size P C S c _ L wr hcol (by omega) (by omega) (by omega)).mono ?_; rintro e w2 ⟨rfl, hcol2, hb2⟩)
        go_roundw
        case rel => exact ⟨k + 1, _, _, by omega, by go_num, HL.out.1, HL.out.2.1, HL.out.2.2, hcol2, hbel.trans hb2, H2 ()⟩
        case measure => simp [intOf]; omega
      · obtain ⟨bB, oB, rfl, lB, cB⟩ := hB.cells (by rw [hnb.out]; omega)
        have xB := (hbel.cell (p := ⟨bB, oB + k, none⟩) lB).trans (cB k (by rw [hnb.out]; exact hkb))
        clear cB
        have zA : Hid (nth la k = 0) := nth_ge (by rw [hna.out]; omega)
        have hs4 : Hid (c + ((nth la k : Int) * x + (nth lb k : Int) * y) = c + ((nth lb k : Int) * y)) := by
          rw [zA.out]; show _ = _; simp
        go_wp2_with (go_at_call 94; refine (put_any w.heap.size P C S c _ L wr hcol (by omega) (by omega) (by omega)).mono ?_; rintro e w2 ⟨rfl, hcol2, hb2⟩)
        rw [← hs4.out] at hcol2
        go_roundw
        case rel => exact ⟨k + 1, _, _, by omega, by go_num, HL.out.1, HL.out.2.1, HL.out.2.2, hcol2, hbel.trans hb2, H2 ()⟩
        case measure => simp [intOf]; omega
    · obtain rfl : k = nb := by omega
      have hfin := finish_val (z := z) H.out.1 H.out.2.1 hz (by rw [H.out.2.2, List.take_of_length_le (by rw [hna.out]; omega), List.take_of_length_le (by rw [hnb.out]; omega)]; exact hval.out)
      obtain ⟨m, rfl⟩ := Int.eq_ofNat_of_zero_le hfin.1
      have HV : Hid (val L + 65536 ^ L.length * m = z.toNat) := hfin.2
      have hLL := H.out.1
      clear hfin
      go_wp2_with (go_at_call 95; refine (finish_any w.heap.size P C S m L wr hcol hLL (by omega) (by omega)).mono ?_; rintro e w2 ⟨v2, rfl, hsl, hb2⟩)
      go_ret
      exact ⟨v2, rfl, by rw [← HV.out]; exact hsl, hbel.trans hb2⟩

set_option maxRecDepth 100000 in
set_option maxHeartbeats 2000000 in
theorem combine_gt (la lb : List Nat) (A B : Option Addr) (na nb ca cb : Nat) (x y : Int) (m1 m2 : Nat) (w : World) (hna : Hid (la.length = na)) (hnb : Hid (lb.length = nb)) (ha : na ≤ 1099511627000) (hb : nb ≤ 1099511627000)
    (hla : Limbs la) (hlb : Limbs lb) (hA : At w A la) (hB : At w B lb) (hfit : Fit x y m1 m2) (z : Int) (hz : 0 ≤ z) (hval : Hid ((val la : Int) * x + val lb * y = z)) (hmx : nb < na) :
    Calls Try.prog 82 #[.slice A na ca, .int .i64 x, .slice B nb cb, .int .i64 y] w fun e w' => ∃ v, e = .returned v ∧ Sl w' v (digs z.toNat) ∧ Below w.heap.size w w' := by
  have HF : Hid (Fit x y m1 m2) := hfit
  have hm1 := hfit.1
  have hm2 := hfit.2.1
  clear hfit
  go_enter Try.func82, Try.ntmps82
  go_wp2_with (go_at_call 84; refine (collector_int _ _ (by omega) (by omega)).mono ?_; rintro e w1 ⟨P, C, S, rfl, hcol, hb1⟩)
  go_loopw [26] (fun i wr => ∃ (k : Nat) (c : Int) (L : List Nat), k ≤ na ∧ i = .int .i64 k ∧ -(m1 : Int) ≤ c ∧ c ≤ m2 ∧ L.length ≤ na ∧ Col wr w.heap.size P C S c L ∧ Below w.heap.size w wr ∧ Hid (Limbs L ∧ L.length = k ∧ (val L : Int) + 65536 ^ k * c = val (la.take k) * x + val (lb.take k) * y)) (fun i _ => na - (intOf i).toNat)
  case atStart => exact ⟨0, 0, [], by omega, rfl, by omega, by omega, by simp, hcol, hb1, limbs_nil, rfl, by simp [val]⟩
  case round =>
    obtain ⟨k, c, L, hk, rfl, hc1, hc2, hL, hcol, hbel, H⟩ := hrel
    by_cases hlt : k < na
    · have hu := nth_lt hla k
      have hv := nth_lt hlb k
      have hs1 := HF.out.2.2 _ _ hu hv
      have hs2 := HF.out.2.2 _ 0 hu (by omega)
      have hs3 := HF.out.2.2 0 _ (by omega) hv
      simp only [Int.natCast_zero, Int.zero_mul, Int.zero_add, Int.add_zero] at hs2 hs3
      have hLk : L.length ≤ k := by have := H.out.2.1; omega
      have H2 : ∀ _ : Unit, Hid (Limbs (L ++ [((c + ((nth la k : Int) * x + (nth lb k : Int) * y)) % 65536).toNat]) ∧ (L ++ [((c + ((nth la k : Int) * x + (nth lb k : Int) * y)) % 65536).toNat]).length = k + 1 ∧ (val (L ++ [((c + ((nth la k : Int) * x + (nth lb k : Int) * y)) % 65536).toNat]) : Int) + 65536 ^ (k + 1) * ((c + ((nth la k : Int) * x + (nth lb k : Int) * y)) / 65536) = val (la.take (k + 1)) * x + val (lb.take (k + 1)) * y) := by
        intro _
        refine ⟨limbs_append.2 ⟨H.out.1, by intro t ht; simp at ht; omega⟩, by rw [List.length_append, H.out.2.1]; rfl, ?_⟩
        rw [put_step L k c _ _ x y _ _ H.out.2.1 H.out.2.2, val_take_succ, val_take_succ, Int.natCast_add, Int.natCast_add, Int.natCast_mul, Int.natCast_mul, Int.natCast_pow]
        rfl
      have hlen : (L ++ [((c + ((nth la k : Int) * x + (nth lb k : Int) * y)) % 65536).toNat]).length ≤ na := by rw [List.length_append]; simp; omega
      have hd1 : -(m1 : Int) ≤ (c + ((nth la k : Int) * x + (nth lb k : Int) * y)) / 65536 := by omega
      have hd2 : (c + ((nth la k : Int) * x + (nth lb k : Int) * y)) / 65536 ≤ m2 := by omega
      clear H
      have HL : Hid (-(m1 : Int) ≤ (c + ((nth la k : Int) * x + (nth lb k : Int) * y)) / 65536 ∧ (c + ((nth la k : Int) * x + (nth lb k : Int) * y)) / 65536 ≤ m2 ∧ (L ++ [((c + ((nth la k : Int) * x + (nth lb k : Int) * y)) % 65536).toNat]).length ≤ na) := ⟨hd1, hd2, hlen⟩
      clear hd1 hd2 hlen
      have hka := hlt
      by_cases hkb : k < nb
      · obtain ⟨bA, oA, rfl, lA, cA⟩ := hA.cells (by rw [hna.out]; omega)
        have xA := (hbel.cell (p := ⟨bA, oA + k, none⟩) lA).trans (cA k (by rw [hna.out]; exact hka))
        clear cA
        obtain ⟨bB, oB, rfl, lB, cB⟩ := hB.cells (by rw [hnb.out]; omega)
        have xB := (hbel.cell (p := ⟨bB, oB + k, none⟩) lB).trans (cB k (by rw [hnb.out]; exact hkb))
        clear cB
        go_wp2_with (go_at_call 94; refine (put_any w.heap.size P C S c _ L wr hcol (by omega) (by omega) (by omega)).mono ?_; rintro e w2 ⟨rfl, hcol2, hb2⟩)
        go_roundw
        case rel => exact ⟨k + 1, _, _, by omega, by go_num, HL.out.1, HL.out.2.1, HL.out.2.2, hcol2, hbel.trans hb2, H2 ()⟩
        case measure => simp [intOf]; omega
      · obtain ⟨bA, oA, rfl, lA, cA⟩ := hA.cells (by rw [hna.out]; omega)
        have xA := (hbel.cell (p := ⟨bA, oA + k, none⟩) lA).trans (cA k (by rw [hna.out]; exact hka))
        clear cA
        have zB : Hid (nth lb k = 0) := nth_ge (by rw [hnb.out]; omega)
        have hs4 : Hid (c + ((nth la k : Int) * x + (nth lb k : Int) * y) = c + ((nth la k : Int) * x)) := by
          rw [zB.out]; show _ = _; simp
        go_wp2_with (go_at_call 94; refine (put_any w.heap.size P C S c _ L wr hcol (by omega) (by omega) (by omega)).mono ?_; rintro e w2 ⟨rfl, hcol2, hb2⟩)
        rw [← hs4.out] at hcol2
        go_roundw
        case rel => exact ⟨k + 1, _, _, by omega, by go_num, HL.out.1, HL.out.2.1, HL.out.2.2, hcol2, hbel.trans hb2, H2 ()⟩
        case measure => simp [intOf]; omega
    · obtain rfl : k = na := by omega
      have hfin := finish_val (z := z) H.out.1 H.out.2.1 hz (by rw [H.out.2.2, List.take_of_length_le (by rw [hna.out]; omega), List.take_of_length_le (by rw [hnb.out]; omega)]; exact hval.out)
      obtain ⟨m, rfl⟩ := Int.eq_ofNat_of_zero_le hfin.1
      have HV : Hid (val L + 65536 ^ L.length * m = z.toNat) := hfin.2
      have hLL := H.out.1
      clear hfin
      go_wp2_with (go_at_call 95; refine (finish_any w.heap.size P C S m L wr hcol hLL (by omega) (by omega)).mono ?_; rintro e w2 ⟨v2, rfl, hsl, hb2⟩)
      go_ret
      exact ⟨v2, rfl, by rw [← HV.out]; exact hsl, hbel.trans hb2⟩

set_option maxRecDepth 100000 in
set_option maxHeartbeats 2000000 in
theorem combine_eq (la lb : List Nat) (A B : Option Addr) (na ca cb : Nat) (x y : Int) (m1 m2 : Nat) (w : World) (hna : Hid (la.length = na)) (hnb : Hid (lb.length = na)) (ha : na ≤ 1099511627000) (hb : na ≤ 1099511627000)
    (hla : Limbs la) (hlb : Limbs lb) (hA : At w A la) (hB : At w B lb) (hfit : Fit x y m1 m2) (z : Int) (hz : 0 ≤ z) (hval : Hid ((val la : Int) * x + val lb * y = z)) :
    Calls Try.prog 82 #[.slice A na ca, .int .i64 x, .slice B na cb, .int .i64 y] w fun e w' => ∃ v, e = .returned v ∧ Sl w' v (digs z.toNat) ∧ Below w.heap.size w w' := by
  have HF : Hid (Fit x y m1 m2) := hfit
  have hm1 := hfit.1
  have hm2 := hfit.2.1
  clear hfit
  go_enter Try.func82, Try.ntmps82
  go_wp2_with (go_at_call 84; refine (collector_int _ _ (by omega) (by omega)).mono ?_; rintro e w1 ⟨P, C, S, rfl, hcol, hb1⟩)
  go_loopw [26] (fun i wr => ∃ (k : Nat) (c : Int) (L : List Nat), k ≤ na ∧ i = .int .i64 k ∧ -(m1 : Int) ≤ c ∧ c ≤ m2 ∧ L.length ≤ na ∧ Col wr w.heap.size P C S c L ∧ Below w.heap.size w wr ∧ Hid (Limbs L ∧ L.length = k ∧ (val L : Int) + 65536 ^ k * c = val (la.take k) * x + val (lb.take k) * y)) (fun i _ => na - (intOf i).toNat)
  case atStart => exact ⟨0, 0, [], by omega, rfl, by omega, by omega, by simp, hcol, hb1, limbs_nil, rfl, by simp [val]⟩
  case round =>
    obtain ⟨k, c, L, hk, rfl, hc1, hc2, hL, hcol, hbel, H⟩ := hrel
    by_cases hlt : k < na
    · have hu := nth_lt hla k
      have hv := nth_lt hlb k
      have hs1 := HF.out.2.2 _ _ hu hv
      have hs2 := HF.out.2.2 _ 0 hu (by omega)
      have hs3 := HF.out.2.2 0 _ (by omega) hv
      simp only [Int.natCast_zero, Int.zero_mul, Int.zero_add, Int.add_zero] at hs2 hs3
      have hLk : L.length ≤ k := by have := H.out.2.1; omega
      have H2 : ∀ _ : Unit, Hid (Limbs (L ++ [((c + ((nth la k : Int) * x + (nth lb k : Int) * y)) % 65536).toNat]) ∧ (L ++ [((c + ((nth la k : Int) * x + (nth lb k : Int) * y)) % 65536).toNat]).length = k + 1 ∧ (val (L ++ [((c + ((nth la k : Int) * x + (nth lb k : Int) * y)) % 65536).toNat]) : Int) + 65536 ^ (k + 1) * ((c + ((nth la k : Int) * x + (nth lb k : Int) * y)) / 65536) = val (la.take (k + 1)) * x + val (lb.take (k + 1)) * y) := by
        intro _
        refine ⟨limbs_append.2 ⟨H.out.1, by intro t ht; simp at ht; omega⟩, by rw [List.length_append, H.out.2.1]; rfl, ?_⟩
        rw [put_step L k c _ _ x y _ _ H.out.2.1 H.out.2.2, val_take_succ, val_take_succ, Int.natCast_add, Int.natCast_add, Int.natCast_mul, Int.natCast_mul, Int.natCast_pow]
        rfl
      have hlen : (L ++ [((c + ((nth la k : Int) * x + (nth lb k : Int) * y)) % 65536).toNat]).length ≤ na := by rw [List.length_append]; simp; omega
      have hd1 : -(m1 : Int) ≤ (c + ((nth la k : Int) * x + (nth lb k : Int) * y)) / 65536 := by omega
      have hd2 : (c + ((nth la k : Int) * x + (nth lb k : Int) * y)) / 65536 ≤ m2 := by omega
      clear H
      have HL : Hid (-(m1 : Int) ≤ (c + ((nth la k : Int) * x + (nth lb k : Int) * y)) / 65536 ∧ (c + ((nth la k : Int) * x + (nth lb k : Int) * y)) / 65536 ≤ m2 ∧ (L ++ [((c + ((nth la k : Int) * x + (nth lb k : Int) * y)) % 65536).toNat]).length ≤ na) := ⟨hd1, hd2, hlen⟩
      clear hd1 hd2 hlen
      · have hka := hlt
        have hkb := hlt
        obtain ⟨bA, oA, rfl, lA, cA⟩ := hA.cells (by rw [hna.out]; omega)
        have xA := (hbel.cell (p := ⟨bA, oA + k, none⟩) lA).trans (cA k (by rw [hna.out]; exact hka))
        clear cA
        obtain ⟨bB, oB, rfl, lB, cB⟩ := hB.cells (by rw [hnb.out]; omega)
        have xB := (hbel.cell (p := ⟨bB, oB + k, none⟩) lB).trans (cB k (by rw [hnb.out]; exact hkb))
        clear cB
        go_wp2_with (go_at_call 94; refine (put_any w.heap.size P C S c _ L wr hcol (by omega) (by omega) (by omega)).mono ?_; rintro e w2 ⟨rfl, hcol2, hb2⟩)
        go_roundw
        case rel => exact ⟨k + 1, _, _, by omega, by go_num, HL.out.1, HL.out.2.1, HL.out.2.2, hcol2, hbel.trans hb2, H2 ()⟩
        case measure => simp [intOf]; omega
    · obtain rfl : k = na := by omega
      have hfin := finish_val (z := z) H.out.1 H.out.2.1 hz (by rw [H.out.2.2, List.take_of_length_le (by rw [hna.out]; omega), List.take_of_length_le (by rw [hnb.out]; omega)]; exact hval.out)
      obtain ⟨m, rfl⟩ := Int.eq_ofNat_of_zero_le hfin.1
      have HV : Hid (val L + 65536 ^ L.length * m = z.toNat) := hfin.2
      have hLL := H.out.1
      clear hfin
      go_wp2_with (go_at_call 95; refine (finish_any w.heap.size P C S m L wr hcol hLL (by omega) (by omega)).mono ?_; rintro e w2 ⟨v2, rfl, hsl, hb2⟩)
      go_ret
      exact ⟨v2, rfl, by rw [← HV.out]; exact hsl, hbel.trans hb2⟩

end Go.Proofs.Ytgnidjhfiagfnaa
