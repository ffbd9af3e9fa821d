/- Multiplication of absolute values, column by column. Conditions: at most 1024 limbs each. -/
import Derived.Test.YtgnidjhfiagfnaaXg
import Derived.Test.YtgnidjhfiagfnaaMuls
import Derived.BigQuiet
namespace Go.Proofs.Ytgnidjhfiagfnaa
open Go.RowKit

theorem put_nat (base P C S c d : Nat) (L : List Nat) (w : World) (h : Col w base P C S c L) (hl : L.length ≤ 70368744177600) (h2 : c ≤ 2305843009213693952) (h3 : d ≤ 2305843009213693952) :
    Calls Try.prog 94 #[.int .i64 d, .pointer (some ⟨C, 0, none⟩), .pointer (some ⟨S, 0, none⟩)] w fun e w' => e = .returned (.tuple #[]) ∧ Col w' base P C S (((c + d) / 65536 : Nat) : Int) (L ++ [(c + d) % 65536]) ∧ Below base w w' := by
  refine (put_any base P C S c d L w h hl (by omega) (by omega)).mono ?_
  rintro e w' ⟨h1, h2, h3⟩
  refine ⟨h1, ?_, h3⟩
  have e1 : ((c : Int) + d) / 65536 = (((c + d) / 65536 : Nat) : Int) := by omega
  have e2 : (((c : Int) + d) % 65536).toNat = (c + d) % 65536 := by omega
  rwa [e1, e2] at h2

set_option maxRecDepth 100000 in
set_option maxHeartbeats 2000000 in
theorem multiply_pos (la lb : List Nat) (A B : Option Addr) (na nb ca cb : Nat) (w : World) (hna : Hid (la.length = na)) (hnb : Hid (lb.length = nb)) (ha : na ≤ 1024) (hb : nb ≤ 1024) (ha0 : 0 < na) (hb0 : 0 < nb)
    (hla : Limbs la) (hlb : Limbs lb) (hA : At w A la) (hB : At w B lb) :
    Calls Try.prog 65 #[.slice A na ca, .slice B nb cb] w fun e w' => ∃ v, e = .returned v ∧ Sl w' v (digs (val la * val lb)) ∧ Below w.heap.size w w' := by
  obtain ⟨bA, oA, rfl, lA, cA⟩ := hA.cells (by rw [hna.out]; omega)
  obtain ⟨bB, oB, rfl, lB, cB⟩ := hB.cells (by rw [hnb.out]; omega)
  have CA : Hid (∀ j, j < la.length → w.cell? ⟨bA, oA + j, none⟩ = some (.int .u16 (nth la j))) := cA
  have CB : Hid (∀ j, j < lb.length → w.cell? ⟨bB, oB + j, none⟩ = some (.int .u16 (nth lb j))) := cB
  clear cA cB hA hB
  have en : ((na : Int) == 0) = false := by simp; omega
  have em : ((nb : Int) == 0) = false := by simp; omega
  go_enter Try.func65, Try.ntmps65
  go_wp2_with (go_at_call 84; refine (collector_int _ _ (by omega) (by omega)).mono ?_; rintro e w1 ⟨P, C, S, rfl, hcol, hb1⟩)
  go_loopw [33] (fun i wr => ∃ (k c : Nat) (L : List Nat), k ≤ na + nb - 1 ∧ i = .int .i64 k ∧ c ≤ 8589934592 ∧ L.length ≤ 2048 ∧ Col wr w.heap.size P C S c L ∧ Below w.heap.size w wr ∧ Hid (Limbs L ∧ L.length = k ∧ val L + 65536 ^ k * c = cols la lb k)) (fun i _ => na + nb - (intOf i).toNat)
  case atStart => exact ⟨0, 0, [], by omega, rfl, by omega, by simp, hcol, hb1, limbs_nil, rfl, by simp [val, cols]⟩
  case round =>
    obtain ⟨k, c, L, hk, rfl, hc, hL, hcol, hbel, H⟩ := hrel
    by_cases hlt : k < na + nb - 1
    · have hlt2 : (k : Int) < (na : Int) + nb - 1 := by omega
      have hki : (k : Int) ≤ 2048 := by omega
      obtain ⟨lo, hlo⟩ : ∃ lo : Nat, k + 1 - nb = lo := ⟨_, rfl⟩
      obtain ⟨hi, hhi⟩ : ∃ hi : Nat, min k (na - 1) = hi := ⟨_, rfl⟩
      have hlom : max (0 : Int) ((k : Int) - nb + 1) = (lo : Int) := by omega
      have HLO : Hid (max (0 : Int) ((k : Int) - nb + 1) = (lo : Int)) := hlom
      have hlh : lo ≤ hi + 1 := by omega
      have hhk : hi ≤ k := by omega
      have hhn : hi < na := by omega
      have h0 : Hid (colTo la lb k lo = 0) := by
        rcases Nat.eq_zero_or_pos lo with h | h
        · rw [h]; exact rfl
        · exact colTo_low la lb k lo (by rw [hnb.out]; omega)
      have hend : Hid (colTo la lb k (hi + 1) = col la lb k) := colTo_end la lb k (hi + 1) (by
        have := hna.out
        rcases Nat.le_total k (na - 1) with h | h
        · left; rw [Nat.min_eq_left h] at hhi; omega
        · right; rw [Nat.min_eq_right h] at hhi; omega)
      have hlon : k + 1 ≤ lo + nb := by omega
      clear hlom
      go_wp2
      rw [HLO.out]
      go_loopw [8, 9] (fun x y wx => ∃ (i s : Nat), lo ≤ i ∧ i ≤ hi + 1 ∧ x = .int .i64 s ∧ y = .int .i64 i ∧ s ≤ 4398046511104 ∧ Hid (colTo la lb k i = s) ∧ Col wx w.heap.size P C S c L ∧ Below w.heap.size w wx) (fun _ y _ => hi + 1 - (intOf y).toNat)
      case atStart => exact ⟨lo, 0, by omega, by omega, rfl, rfl, by omega, h0, hcol, hbel⟩
      case round =>
        obtain ⟨i, s, hi1, hi2, rfl, rfl, hs, HS, hcol, hbel⟩ := hrel
        by_cases hih : i ≤ hi
        · have htest : (i : Int) ≤ min (k : Int) ((na : Int) - 1) := by omega
          obtain ⟨j, hj⟩ : ∃ j : Nat, k = i + j := ⟨k - i, by omega⟩
          have hjb : j < nb := by omega
          have ej : (k : Int) - i = (j : Int) := by omega
          have xA := (hbel.cell (p := ⟨bA, oA + i, none⟩) lA).trans (CA.out i (by rw [hna.out]; omega))
          have xB := (hbel.cell (p := ⟨bB, oB + j, none⟩) lB).trans (CB.out j (by rw [hnb.out]; omega))
          have u1 := nth_lt hla i
          have u2 := nth_lt hlb j
          obtain ⟨a, haa⟩ : ∃ a, nth la i = a := ⟨_, rfl⟩
          obtain ⟨b, hbb⟩ : ∃ b, nth lb j = b := ⟨_, rfl⟩
          rw [haa] at xA u1
          rw [hbb] at xB u2
          have hm : a * b ≤ 65535 * 65535 := Nat.mul_le_mul (by omega) (by omega)
          have HN : Hid (colTo la lb k (i + 1) = s + a * b) := by
            show _ = _
            rw [colTo, HS.out, haa, show k - i = j by omega, hbb]
          clear haa hbb
          go_wp2
          go_quiet (fail)
          go_wp2
          go_roundw
          case rel =>
            have hs2 : s + a * b ≤ 4398046511104 := by
              have := colTo_le hla hlb k (i + 1)
              rw [HN.out] at this
              omega
            exact ⟨i + 1, s + a * b, by omega, by omega, by go_num, by go_num, hs2, HN, ⟨hcol.carry, hcol.rows, hcol.putf, hcol.le⟩, ⟨hbel.os, hbel.tape, hbel.output, hbel.size, hbel.block⟩⟩
          case measure => simp [intOf]; omega
        · obtain rfl : i = hi + 1 := by omega
          have htest : ¬ ((hi + 1 : Nat) : Int) ≤ min (k : Int) ((na : Int) - 1) := by omega
          have hsk : Hid (col la lb k = s) := by show _ = _; rw [← hend.out, HS.out]
          have hLk : L.length ≤ 2047 := by have := H.out.2.1; omega
          have H2 : Hid (Limbs (L ++ [(c + s) % 65536]) ∧ (L ++ [(c + s) % 65536]).length = k + 1 ∧ val (L ++ [(c + s) % 65536]) + 65536 ^ (k + 1) * ((c + s) / 65536) = cols la lb (k + 1)) := by
            refine ⟨limbs_append.2 ⟨H.out.1, by intro t ht; simp at ht; omega⟩, by rw [List.length_append, H.out.2.1]; rfl, ?_⟩
            rw [put_col H.out.2.1 H.out.2.2, cols, hsk.out]
          have hlen : Hid ((L ++ [(c + s) % 65536]).length ≤ 2048) := by show _ ≤ _; rw [List.length_append]; simp; omega
          clear HS h0 hend hsk
          go_wp2_with (go_at_call 94; refine (put_nat w.heap.size P C S c s L wr hcol (by omega) (by omega) (by omega)).mono ?_; rintro e w2 ⟨rfl, hcol2, hb2⟩)
          go_roundw
          case rel => exact ⟨k + 1, (c + s) / 65536, _, by omega, by go_num, by omega, hlen.out, hcol2, hbel.trans hb2, H2⟩
          case measure => simp [intOf]; omega
    · obtain rfl : k = na + nb - 1 := by omega
      have HV : Hid (val L + 65536 ^ L.length * c = val la * val lb) := by
        show _ = _
        rw [H.out.2.1, H.out.2.2, cols_all la lb _ (by rw [hna.out, hnb.out]; omega) (by rw [hnb.out]; omega)]
      have hLL := H.out.1
      have hlt2 : ¬ ((na + nb - 1 : Nat) : Int) < (na : Int) + nb - 1 := by omega
      go_wp2_with (go_at_call 95; refine (finish_any w.heap.size P C S c L wr hcol hLL (by omega) (by omega)).mono ?_; rintro e w2 ⟨v2, rfl, hsl, hb2⟩)
      go_ret
      exact ⟨v2, rfl, by rw [← HV.out]; exact hsl, hbel.trans hb2⟩

set_option maxRecDepth 100000 in
set_option maxHeartbeats 400000 in
theorem multiply_nil {A B : Option Addr} {na nb ca cb : Nat} {w : World} (h : ((na : Int) == 0) = true) :
    Calls Try.prog 65 #[.slice A na ca, .slice B nb cb] w fun e w' => e = .returned (.slice none 0 0) ∧ w = w' := by
  go_enter Try.func65, Try.ntmps65
  go_wp2
  go_ret
  exact ⟨rfl, rfl⟩

set_option maxRecDepth 100000 in
set_option maxHeartbeats 400000 in
theorem multiply_nil2 {A B : Option Addr} {na nb ca cb : Nat} {w : World} (h : ((na : Int) == 0) = false) (h2 : ((nb : Int) == 0) = true) :
    Calls Try.prog 65 #[.slice A na ca, .slice B nb cb] w fun e w' => e = .returned (.slice none 0 0) ∧ w = w' := by
  go_enter Try.func65, Try.ntmps65
  go_wp2
  go_ret
  exact ⟨rfl, rfl⟩

theorem multiply_sl {w : World} {va vb : Value} {la lb : List Nat} (hA : Sl w va la) (hB : Sl w vb lb) (ha : la.length ≤ 1024) (hb : lb.length ≤ 1024) :
    Calls Try.prog 65 #[va, vb] w fun e w' => ∃ v, e = .returned v ∧ Sl w' v (digs (val la * val lb)) ∧ Below w.heap.size w w' := by
  obtain ⟨a1, _, A, ca, rfl, _, _, a2⟩ := hA
  obtain ⟨b1, _, B, cb, rfl, _, _, b2⟩ := hB
  rcases Nat.eq_zero_or_pos la.length with h | h
  · refine (multiply_nil (by rw [h]; rfl)).mono ?_
    rintro e w' ⟨rfl, rfl⟩
    have : la = [] := List.eq_nil_of_length_eq_zero h
    subst this
    refine ⟨_, rfl, ?_, Below.refl _ _⟩
    simp only [val, Nat.zero_mul, digs_zero]
    exact Sl.nil _
  · rcases Nat.eq_zero_or_pos lb.length with h2 | h2
    · refine (multiply_nil2 (by simp; intro e; subst e; simp at h) (by rw [h2]; rfl)).mono ?_
      rintro e w' ⟨rfl, rfl⟩
      have : lb = [] := List.eq_nil_of_length_eq_zero h2
      subst this
      refine ⟨_, rfl, ?_, Below.refl _ _⟩
      simp only [val, Nat.mul_zero, digs_zero]
      exact Sl.nil _
    · exact multiply_pos la lb A B _ _ ca cb w rfl rfl ha hb h h2 a1 b1 a2 b2
end Go.Proofs.Ytgnidjhfiagfnaa
