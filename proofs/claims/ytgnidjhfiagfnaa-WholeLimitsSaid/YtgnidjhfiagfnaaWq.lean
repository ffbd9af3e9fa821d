/- Sameness of numbers, and numbers out of ints. Conditions: the numbers are in memory. -/
import Derived.Test.YtgnidjhfiagfnaaWp
import Derived.Deep.QuietTactic
import Derived.BigQuiet
namespace Go.Proofs.Ytgnidjhfiagfnaa
open Go.RowKit

set_option maxRecDepth 100000 in
set_option maxHeartbeats 400000 in
theorem same_sign (x y : Bool) (A B : Option Addr) (na nb ca cb : Nat) (w : World) (h : x ≠ y) :
    Calls Try.prog 47 #[.agg #[.bool x, .slice A na ca], .agg #[.bool y, .slice B nb cb]] w fun e w' => e = .returned (.bool false) ∧ Below w.heap.size w w' := by
  cases x <;> cases y <;> first | exact absurd rfl h | skip
  all_goals
    go_enter Try.func47, Try.ntmps47
    go_wp2
    go_ret
    exact ⟨rfl, (by repeat (first | exact Below.refl _ _ | assumption | refine Below.alloc ?_ (by first | (simp; done) | (simp; omega) | omega) _ | refine Below.setCell ?_ (by first | (simp; done) | (simp; omega) | omega) _ | refine Below.drew ?_))⟩

set_option maxRecDepth 100000 in
set_option maxHeartbeats 400000 in
theorem same_lens (x : Bool) (A B : Option Addr) (na nb ca cb : Nat) (w : World) (_ha : na ≤ 4611686018427387904) (_hb : nb ≤ 4611686018427387904) (h : na ≠ nb) :
    Calls Try.prog 47 #[.agg #[.bool x, .slice A na ca], .agg #[.bool x, .slice B nb cb]] w fun e w' => e = .returned (.bool false) ∧ Below w.heap.size w w' := by
  have h1 : ((na : Int) != (nb : Int)) = true := by rw [bne_iff_ne]; omega
  have h2 : (x != x) = false := by simp
  go_enter Try.func47, Try.ntmps47
  go_wp2
  go_ret
  exact ⟨rfl, (by repeat (first | exact Below.refl _ _ | assumption | refine Below.alloc ?_ (by first | (simp; done) | (simp; omega) | omega) _ | refine Below.setCell ?_ (by first | (simp; done) | (simp; omega) | omega) _ | refine Below.drew ?_))⟩

set_option maxRecDepth 100000 in
set_option maxHeartbeats 2000000 in
theorem same_loop (x : Bool) (la lb : List Nat) (A B : Option Addr) (n ca cb : Nat) (w : World) (hna : Hid (la.length = n)) (hnb : Hid (lb.length = n)) (hn : n ≤ 4611686018427387904) (hla : Limbs la) (hlb : Limbs lb) (hA : At w A la) (hB : At w B lb) :
    Calls Try.prog 47 #[.agg #[.bool x, .slice A n ca], .agg #[.bool x, .slice B n cb]] w fun e w' => e = .returned (.bool (decide (la = lb))) ∧ Below w.heap.size w w' := by
  have h2 : (x != x) = false := by simp
  obtain ⟨W0, hW0⟩ : ∃ W0, (w.alloc (.cells #[.bool x, .slice A n ca] 26)).alloc (.cells #[.bool x, .slice B n cb] 26) = W0 := ⟨_, rfl⟩
  have b0 : Blk W0 w.heap.size 26 #[.bool x, .slice A n ca] := by rw [← hW0]; exact (Blk.new w _ _).alloc _
  have b1 : Blk W0 (w.heap.size + 1) 26 #[.bool x, .slice B n cb] := by
    rw [← hW0]
    have := Blk.new (w.alloc (.cells #[.bool x, .slice A n ca] 26)) 26 #[.bool x, .slice B n cb]
    rwa [World.size_alloc] at this
  have bw : Below w.heap.size w W0 := by rw [← hW0]; exact (by repeat (first | exact Below.refl _ _ | assumption | refine Below.alloc ?_ (by first | (simp; done) | (simp; omega) | omega) _ | refine Below.setCell ?_ (by first | (simp; done) | (simp; omega) | omega) _ | refine Below.drew ?_))
  have HW : Hid ((w.alloc (.cells #[.bool x, .slice A n ca] 26)).alloc (.cells #[.bool x, .slice B n cb] 26) = W0) := hW0
  clear hW0
  go_enter Try.func47, Try.ntmps47
  go_wp2
  rw [HW.out]
  clear HW
  go_loopw [5] (fun i wr => ∃ k : Nat, k ≤ n ∧ i = .int .i64 k ∧ Below W0.heap.size W0 wr ∧ Hid (∀ j, j < k → nth la j = nth lb j)) (fun i _ => n - (intOf i).toNat)
  case atStart => exact ⟨0, by omega, rfl, Below.refl _ _, fun j hj => by omega⟩
  case round =>
    obtain ⟨k, hk, rfl, hbel, HJ⟩ := hrel
    have c0 := ((b0.below hbel b0.lt).cell 1).trans (b := some (Value.slice A n ca)) rfl
    have c1 := ((b1.below hbel b1.lt).cell 1).trans (b := some (Value.slice B n cb)) rfl
    by_cases hlt : k < n
    · obtain ⟨bA, oA, rfl, lA, cA⟩ := hA.cells (by rw [hna.out]; omega)
      obtain ⟨bB, oB, rfl, lB, cB⟩ := hB.cells (by rw [hnb.out]; omega)
      have xA := (hbel.cell (p := ⟨bA, oA + k, none⟩) (Nat.lt_of_lt_of_le lA bw.size)).trans ((bw.cell (p := ⟨bA, oA + k, none⟩) lA).trans (cA k (by rw [hna.out]; exact hlt)))
      have xB := (hbel.cell (p := ⟨bB, oB + k, none⟩) (Nat.lt_of_lt_of_le lB bw.size)).trans ((bw.cell (p := ⟨bB, oB + k, none⟩) lB).trans (cB k (by rw [hnb.out]; exact hlt)))
      clear cA cB
      have hi : (k : Int) < (n : Int) := by omega
      have u1 := nth_lt hla k
      have u2 := nth_lt hlb k
      by_cases he : nth la k = nth lb k
      · have e1 : (((nth la k : Nat) : Int) != (nth lb k : Int)) = false := by simp [he]
        have HE : Hid (nth la k = nth lb k) := he
        clear he
        go_wp2
        go_quiet (fail)
        go_wp2
        go_roundw
        case rel => exact ⟨k + 1, by omega, by go_num, ⟨hbel.os, hbel.tape, hbel.output, hbel.size, hbel.block⟩, fun j hj => by
          rcases Nat.lt_or_ge j k with h | h
          · exact HJ.out j h
          · obtain rfl : j = k := by omega
            exact HE.out⟩
        case measure => simp [intOf]; omega
      · have e1 : (((nth la k : Nat) : Int) != (nth lb k : Int)) = true := by rw [bne_iff_ne]; omega
        go_wp2
        go_quiet (fail)
        go_wp2
        go_ret
        refine ⟨ret_bool ?_, bw.trans (Below.mono ⟨hbel.os, hbel.tape, hbel.output, hbel.size, hbel.block⟩ bw.size)⟩
        have : la ≠ lb := fun e => he (by rw [e])
        simp [this]
    · obtain rfl : k = n := by omega
      go_wp2
      go_ret
      refine ⟨ret_bool ?_, bw.trans (hbel.mono bw.size)⟩
      have : la = lb := list_ext (by rw [hna.out, hnb.out]) (fun j hj => HJ.out j (by rw [hna.out] at hj; exact hj))
      simp [this]

theorem same_wh {w : World} {va vb : Value} {x y : Bool} {la lb : List Nat} (hA : Wh w va x la) (hB : Wh w vb y lb) :
    Calls Try.prog 47 #[va, vb] w fun e w' => e = .returned (.bool (decide (x = y ∧ la = lb))) ∧ Below w.heap.size w w' := by
  obtain ⟨A, ca, rfl, sa⟩ := hA
  obtain ⟨B, cb, rfl, sb⟩ := hB
  obtain ⟨a1, a2, A', _, ha, _, _, a3⟩ := id sa
  obtain ⟨b1, b2, B', _, hb, _, _, b3⟩ := id sb
  injection ha with ha1
  injection hb with hb1
  subst ha1 hb1
  by_cases hxy : x = y
  · subst hxy
    by_cases hl : la.length = lb.length
    · refine (same_loop x la lb A B la.length ca cb w rfl hl.symm (by omega) a1 b1 a3 b3).mono ?_ |> fun h => (by rw [← hl]; exact h)
      rintro e w' ⟨rfl, h⟩
      exact ⟨ret_bool (by simp), h⟩
    · refine (same_lens x A B _ _ ca cb w (by omega) (by omega) hl).mono ?_
      rintro e w' ⟨rfl, h⟩
      have : la ≠ lb := fun e => hl (by rw [e])
      exact ⟨ret_bool (by simp [this]), h⟩
  · refine (same_sign x y A B _ _ ca cb w hxy).mono ?_
    rintro e w' ⟨rfl, h⟩
    exact ⟨ret_bool (by simp [hxy]), h⟩

set_option maxRecDepth 100000 in
set_option maxHeartbeats 400000 in
theorem make_any (n : Nat) (A : Option Addr) (c : Nat) (w : World) (neg : Bool) :
    Calls Try.prog 66 #[.bool neg, .slice A n c] w fun e w' => e = .returned (.agg #[.bool (neg && decide (0 < n)), .slice A n c]) ∧ Below w.heap.size w w' := by
  cases neg
  · go_enter Try.func66, Try.ntmps66
    go_wp2
    exact bodyPost_ret (v := .agg #[.bool false, .slice A n c]) (by simp [results, Try.results66, go_sem]) rfl ⟨by simp, (by repeat (first | exact Below.refl _ _ | assumption | refine Below.alloc ?_ (by first | (simp; done) | (simp; omega) | omega) _ | refine Below.setCell ?_ (by first | (simp; done) | (simp; omega) | omega) _ | refine Below.drew ?_))⟩
  · by_cases h : 0 < n
    · go_enter Try.func66, Try.ntmps66
      go_wp2
      exact bodyPost_ret (v := .agg #[.bool true, .slice A n c]) (by simp [results, Try.results66, go_sem]) rfl ⟨by simp [h], (by repeat (first | exact Below.refl _ _ | assumption | refine Below.alloc ?_ (by first | (simp; done) | (simp; omega) | omega) _ | refine Below.setCell ?_ (by first | (simp; done) | (simp; omega) | omega) _ | refine Below.drew ?_))⟩
    · obtain rfl : n = 0 := by omega
      go_enter Try.func66, Try.ntmps66
      go_wp2
      exact bodyPost_ret (v := .agg #[.bool false, .slice A 0 c]) (by simp [results, Try.results66, go_sem]) rfl ⟨by simp, (by repeat (first | exact Below.refl _ _ | assumption | refine Below.alloc ?_ (by first | (simp; done) | (simp; omega) | omega) _ | refine Below.setCell ?_ (by first | (simp; done) | (simp; omega) | omega) _ | refine Below.drew ?_))⟩

end Go.Proofs.Ytgnidjhfiagfnaa
