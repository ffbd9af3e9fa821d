/- Which arguments the laws compute with; sameness. Conditions: the numbers are in memory. -/
import Derived.Test.YtgnidjhfiagfnaaXk
namespace Go.Proofs.Ytgnidjhfiagfnaa
open Go.RowKit

/-- Whether the first n numbers are valid and short. -/
def useV (most : Nat) (X : Nat → Bool) (L : Nat → List Nat) : Nat → Bool
  | 0 => true
  | n + 1 => useV most X L n && (decide ((L n).length ≤ most) && validB (X n) (L n))
theorem useV_false {most : Nat} {X : Nat → Bool} {L : Nat → List Nat} {k n : Nat} (h : (decide ((L k).length ≤ most) && validB (X k) (L k)) = false) (hk : k < n) : useV most X L n = false := by
  induction n with
  | zero => omega
  | succ n ih =>
    unfold useV
    rcases Nat.lt_or_ge k n with h1 | h1
    · rw [ih h1]; rfl
    · obtain rfl : k = n := by omega
      rw [h]; simp

set_option maxRecDepth 100000 in
set_option maxHeartbeats 2000000 in
theorem usable_any (most n M : Nat) (X : Nat → Bool) (L : Nat → List Nat) (w : World) (_hmost : most ≤ 1000) (hn : n ≤ 1000) (hM : M < w.heap.size) (hc : ∀ j, j < n → ∃ A c, Sl w (.slice A (L j).length c) (L j) ∧ w.cell? ⟨M, j * 2, none⟩ = some (.bool (X j)) ∧ w.cell? ⟨M, j * 2 + 1, none⟩ = some (.slice A (L j).length c)) :
    Calls Try.prog 28 #[.int .i64 most, .slice (some ⟨M, 0, none⟩) n n] w fun e w' => e = .returned (.bool (useV most X L n)) ∧ Below w.heap.size w w' := by
  have HC := hc
  have HH : Hid (∀ j, j < n → ∃ A c, Sl w (.slice A (L j).length c) (L j) ∧ w.cell? ⟨M, j * 2, none⟩ = some (.bool (X j)) ∧ w.cell? ⟨M, j * 2 + 1, none⟩ = some (.slice A (L j).length c)) := HC
  clear HC hc
  go_enter Try.func28, Try.ntmps28
  go_wp2
  go_loopw [5] (fun i wr => ∃ k : Nat, k ≤ n ∧ i = .int .i64 k ∧ Below w.heap.size w wr ∧ Hid (useV most X L k = true)) (fun i _ => n - (intOf i).toNat)
  case atStart => exact ⟨0, by omega, rfl, Below.refl _ _, rfl⟩
  case round =>
    obtain ⟨k, hk, rfl, hbel, HV⟩ := hrel
    by_cases hlt : k < n
    · obtain ⟨A, c, hsl, g1, g2⟩ := HH.out k hlt
      have q1 := (hbel.cell (p := ⟨M, k * 2, none⟩) hM).trans g1
      have q2 := (hbel.cell (p := ⟨M, k * 2 + 1, none⟩) hM).trans g2
      have hM2 := Nat.lt_of_lt_of_le hM hbel.size
      have hl46 := hsl.2.1
      obtain ⟨m, hm⟩ : ∃ m, (L k).length = m := ⟨_, rfl⟩
      have hwh : Wh wr (.agg #[.bool (X k), .slice A (L k).length c]) (X k) (L k) := ⟨A, c, rfl, hsl.below hbel⟩
      have hv := valid_wh hwh
      rw [hm] at q2 hv hl46
      by_cases hlen : m ≤ most
      · cases hvb : validB (X k) (L k) with
        | true =>
          rw [hvb] at hv
          have H2 : Hid (Calls Try.prog 20 #[.agg #[.bool (X k), .slice A m c]] wr fun e w' => e = .returned (.bool true) ∧ Below wr.heap.size wr w') := hv
          have H3 : Hid (useV most X L (k + 1) = true) := by show (useV most X L k && (decide ((L k).length ≤ most) && validB (X k) (L k))) = true; rw [HV.out, hvb, hm, decide_eq_true hlen]; rfl
          clear hv hvb hwh hsl hm g1 g2
          go_wp2_with (go_at_call 20; refine H2.out.mono ?_; rintro e w2 ⟨rfl, hb2⟩)
          go_roundw
          case rel => exact ⟨k + 1, by omega, by go_num, hbel.trans (hb2.mono hbel.size), H3⟩
          case measure => simp [intOf]; omega
        | false =>
          rw [hvb] at hv
          have H2 : Hid (Calls Try.prog 20 #[.agg #[.bool (X k), .slice A m c]] wr fun e w' => e = .returned (.bool false) ∧ Below wr.heap.size wr w') := hv
          have H3 : Hid (useV most X L n = false) := useV_false (by rw [hvb]; simp) hlt
          clear hv hvb hwh hsl hm g1 g2
          go_wp2_with (go_at_call 20; refine H2.out.mono ?_; rintro e w2 ⟨rfl, hb2⟩)
          go_ret
          exact ⟨by rw [H3.out]; rfl, hbel.trans (hb2.mono hbel.size)⟩
      · have H3 : Hid (useV most X L n = false) := useV_false (by rw [hm, decide_eq_false hlen]; rfl) hlt
        clear hv hwh hsl hm g1 g2
        go_wp2
        go_ret
        exact ⟨by rw [H3.out]; rfl, hbel⟩
    · obtain rfl : k = n := by omega
      go_wp2
      go_ret
      exact ⟨by rw [HV.out]; rfl, hbel⟩

set_option maxRecDepth 100000 in
set_option maxHeartbeats 400000 in
theorem equalS_lens (A B : Option Addr) (na nb ca cb : Nat) (w : World) (_ha : na ≤ 4611686018427387904) (_hb : nb ≤ 4611686018427387904) (h : na ≠ nb) :
    Calls Try.prog 63 #[.slice A na ca, .slice B nb cb] w fun e w' => e = .returned (.bool false) ∧ Below w.heap.size w w' := by
  have h1 : ((na : Int) != (nb : Int)) = true := by rw [bne_iff_ne]; omega
  go_enter Try.func63, Try.ntmps63
  go_wp2
  go_ret
  exact ⟨rfl, (by repeat (first | exact Below.refl _ _ | assumption | refine Below.alloc ?_ (by first | (simp; done) | (simp; omega) | omega) _ | refine Below.setCell ?_ (by first | (simp; done) | (simp; omega) | omega) _ | refine Below.drew ?_))⟩

set_option maxRecDepth 100000 in
set_option maxHeartbeats 2000000 in
theorem equalS_loop (la lb : List Nat) (A B : Option Addr) (n ca cb : Nat) (w : World) (hna : Hid (la.length = n)) (hnb : Hid (lb.length = n)) (hn : n ≤ 4611686018427387904) (hla : Limbs la) (hlb : Limbs lb) (hA : At w A la) (hB : At w B lb) :
    Calls Try.prog 63 #[.slice A n ca, .slice B n cb] w fun e w' => e = .returned (.bool (decide (la = lb))) ∧ Below w.heap.size w w' := by
  have h2 : ((n : Int) != (n : Int)) = false := by simp
  go_enter Try.func63, Try.ntmps63
  go_wp2
  go_loopw [13] (fun i wr => ∃ k : Nat, k ≤ n ∧ i = .int .i64 k ∧ Below w.heap.size w wr ∧ Hid (∀ j, j < k → nth la j = nth lb j)) (fun i _ => n - (intOf i).toNat)
  case atStart => exact ⟨0, by omega, rfl, Below.refl _ _, fun j hj => by omega⟩
  case round =>
    obtain ⟨k, hk, rfl, hbel, HJ⟩ := hrel
    by_cases hlt : k < n
    · obtain ⟨bA, oA, rfl, lA, cA⟩ := hA.cells (by rw [hna.out]; omega)
      obtain ⟨bB, oB, rfl, lB, cB⟩ := hB.cells (by rw [hnb.out]; omega)
      have xA := (hbel.cell (p := ⟨bA, oA + k, none⟩) lA).trans (cA k (by rw [hna.out]; exact hlt))
      have xB := (hbel.cell (p := ⟨bB, oB + k, none⟩) lB).trans (cB k (by rw [hnb.out]; exact hlt))
      clear cA cB
      have hi : (k : Int) < (n : Int) := by omega
      have u1 := nth_lt hla k
      have u2 := nth_lt hlb k
      by_cases he : nth la k = nth lb k
      · have e1 : (((nth la k : Nat) : Int) != (nth lb k : Int)) = false := by simp [he]
        have HE : Hid (nth la k = nth lb k) := he
        clear he
        go_wp2
        go_quiet (fail)
        go_wp2
        go_roundw
        case rel => exact ⟨k + 1, by omega, by go_num, ⟨hbel.os, hbel.tape, hbel.output, hbel.size, hbel.block⟩, fun j hj => by
          rcases Nat.lt_or_ge j k with h | h
          · exact HJ.out j h
          · obtain rfl : j = k := by omega
            exact HE.out⟩
        case measure => simp [intOf]; omega
      · have e1 : (((nth la k : Nat) : Int) != (nth lb k : Int)) = true := by rw [bne_iff_ne]; omega
        go_wp2
        go_quiet (fail)
        go_wp2
        go_ret
        refine ⟨ret_bool ?_, ⟨hbel.os, hbel.tape, hbel.output, hbel.size, hbel.block⟩⟩
        have : la ≠ lb := fun e => he (by rw [e])
        simp [this]
    · obtain rfl : k = n := by omega
      go_wp2
      go_ret
      refine ⟨ret_bool ?_, hbel⟩
      have : la = lb := list_ext (by rw [hna.out, hnb.out]) (fun j hj => HJ.out j (by rw [hna.out] at hj; exact hj))
      simp [this]

theorem equalS_sl {w : World} {va vb : Value} {la lb : List Nat} (hA : Sl w va la) (hB : Sl w vb lb) :
    Calls Try.prog 63 #[va, vb] w fun e w' => e = .returned (.bool (decide (la = lb))) ∧ Below w.heap.size w w' := by
  obtain ⟨a1, a2, A, ca, rfl, _, _, a3⟩ := hA
  obtain ⟨b1, b2, B, cb, rfl, _, _, b3⟩ := hB
  by_cases hl : la.length = lb.length
  · refine (equalS_loop la lb A B la.length ca cb w rfl hl.symm (by omega) a1 b1 a3 b3).mono ?_ |> fun h => (by rw [← hl]; exact h)
    rintro e w' ⟨rfl, h⟩
    exact ⟨rfl, h⟩
  · refine (equalS_lens A B _ _ ca cb w (by omega) (by omega) hl).mono ?_
    rintro e w' ⟨rfl, h⟩
    have : la ≠ lb := fun e => hl (by rw [e])
    exact ⟨ret_bool (by simp [this]), h⟩

set_option maxRecDepth 100000 in
set_option maxHeartbeats 400000 in
theorem sameP_any {x y : Bool} {la lb : List Nat} {A B : Option Addr} {na nb ca cb : Nat} {w : World} (hsa : Sl w (.slice A na ca) la) (hsb : Sl w (.slice B nb cb) lb) :
    Calls Try.prog 35 #[.agg #[.bool x, .slice A na ca], .agg #[.bool y, .slice B nb cb]] w fun e w' => e = .returned (.bool (decide (x = y ∧ la = lb))) ∧ Below w.heap.size w w' := by
  have bw : Below w.heap.size w ((w.alloc (.cells #[.bool x, .slice A na ca] 26)).alloc (.cells #[.bool y, .slice B nb cb] 26)) := (by repeat (first | exact Below.refl _ _ | assumption | refine Below.alloc ?_ (by first | (simp; done) | (simp; omega) | omega) _ | refine Below.setCell ?_ (by first | (simp; done) | (simp; omega) | omega) _ | refine Below.drew ?_))
  have H := equalS_sl (hsa.below bw) (hsb.below bw)
  have HH : Hid (Calls Try.prog 63 #[.slice A na ca, .slice B nb cb] ((w.alloc (.cells #[.bool x, .slice A na ca] 26)).alloc (.cells #[.bool y, .slice B nb cb] 26)) fun e w' => e = .returned (.bool (decide (la = lb))) ∧ Below ((w.alloc (.cells #[.bool x, .slice A na ca] 26)).alloc (.cells #[.bool y, .slice B nb cb] 26)).heap.size ((w.alloc (.cells #[.bool x, .slice A na ca] 26)).alloc (.cells #[.bool y, .slice B nb cb] 26)) w') := H
  clear H
  by_cases hxy : x = y
  · have e1 : (x == y) = true := by simp [hxy]
    have HX : Hid (x = y) := hxy
    clear hxy
    go_enter Try.func35, Try.ntmps35
    go_wp2_with (go_at_call 63; refine HH.out.mono ?_; rintro e w1 ⟨rfl, hb1⟩)
    go_ret
    exact ⟨ret_bool (by simp [HX.out]), bw.trans (hb1.mono bw.size)⟩
  · have e1 : (x == y) = false := by simp [hxy]
    go_enter Try.func35, Try.ntmps35
    go_wp2
    go_ret
    exact ⟨ret_bool (by simp [hxy]), (by repeat (first | exact Below.refl _ _ | assumption | refine Below.alloc ?_ (by first | (simp; done) | (simp; omega) | omega) _ | refine Below.setCell ?_ (by first | (simp; done) | (simp; omega) | omega) _ | refine Below.drew ?_))⟩

theorem sameP_z {w : World} {va vb : Value} {y z : Int} (hA : WhZ w va y) (hB : WhZ w vb z) :
    Calls Try.prog 35 #[va, vb] w fun e w' => e = .returned (.bool (decide (y = z))) ∧ Below w.heap.size w w' := by
  obtain ⟨A, ca, rfl, sa⟩ := id hA
  obtain ⟨B, cb, rfl, sb⟩ := id hB
  refine (sameP_any sa sb).mono ?_
  rintro e w' ⟨rfl, hb⟩
  refine ⟨ret_bool ?_, hb⟩
  refine decide_eq_decide.2 ⟨fun h => ?_, fun h => by subst h; exact ⟨rfl, rfl⟩⟩
  rw [← zv_whz y, ← zv_whz z, h.1, h.2]
end Go.Proofs.Ytgnidjhfiagfnaa
