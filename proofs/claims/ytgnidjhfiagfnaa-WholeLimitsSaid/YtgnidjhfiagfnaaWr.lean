/- Numbers out of ints, by the program and by the reference. Conditions: none. -/
import Derived.Test.YtgnidjhfiagfnaaWq
namespace Go.Proofs.Ytgnidjhfiagfnaa
open Go.RowKit

theorem wrap_u64 (n : Int) : IntKind.u64.wrap n = n % 18446744073709551616 := by
  rw [IntKind.wrap_u64]

theorem sgn_abs (n : Int) : n = if decide (n < 0) then -(n.natAbs : Int) else (n.natAbs : Int) := by
  by_cases h : n < 0
  · rw [decide_eq_true h, if_pos rfl]; omega
  · rw [decide_eq_false h, if_neg (by simp)]; omega

set_option maxRecDepth 100000 in
set_option maxHeartbeats 400000 in
theorem fromInt_pos (n : Int) (w : World) (h0 : 0 ≤ n) (h1 : n ≤ 9223372036854775807) :
    Calls Try.prog 55 #[.int .i64 n] w fun e w' => ∃ v, e = .returned v ∧ WhZ w' v n ∧ Below w.heap.size w w' := by
  have b0 := Blk.new w 26 #[.bool false, .slice none 0 0]
  have l0 := b0.lt
  go_enter Try.func55, Try.ntmps55
  go_wp2_with (first | (go_at_call 60; refine (limbsOf_any _ _ (by omega) (by omega)).mono ?_; rintro e w1 ⟨o, rfl, ho, hb1⟩; obtain ⟨m, A, c, Hm, rfl, hs⟩ := sl_len ho) | (go_at_call 54; refine (signed_any _ _ _ _ _).mono ?_; rintro e w2 ⟨rfl, hb2⟩; have d2 := (b0.below hb1 l0).below hb2 (Nat.lt_of_lt_of_le l0 hb1.size); have g4 := (d2.cell 0).trans (b := some (Value.bool false)) rfl; have g5 := (d2.cell 1).trans (b := some (Value.slice none 0 0)) rfl; have h4 := d2.frozen 0; have h5 := d2.frozen 1; have l4 := d2.lt))
  have d4 := (d2.set_ 0 (.bool (decide (n < 0) && decide (0 < m)))).set_ 1 (.slice A m c)
  have r0 := (d4.cell 0).trans (b := some (Value.bool (decide (n < 0) && decide (0 < m)))) rfl
  have r1 := (d4.cell 1).trans (b := some (Value.slice A m c)) rfl
  have s5 := (hs.below hb2).store2 d2 (decide (n < 0) && decide (0 < m)) A m c
  have bz := (((Below.refl w.heap.size w).alloc (Nat.le_refl _) (.cells #[.bool false, .slice none 0 0] 26)).trans (hb1.mono (by simp))).trans (hb2.mono (Nat.le_trans (by simp) hb1.size))
  refine bodyPost_ret (v := .agg #[.bool (decide (n < 0) && decide (0 < m)), .slice A m c]) (by simp [results, Try.f55, go_sem, r0, r1]) rfl ⟨_, rfl, ?_, (bz.setCell (p := ⟨w.heap.size, 0, none⟩) (Nat.le_refl _) _).setCell (p := ⟨w.heap.size, 1, none⟩) (Nat.le_refl _) _⟩
  rw [show Int.toNat (n) = n.natAbs from by omega] at Hm s5
  have := signed_z (x := decide (n < 0)) (m := n.natAbs) (z := n) (A := A) (c := c) (sgn_abs n) (by rw [Hm.out]; exact s5)
  rw [Hm.out] at this
  exact this

set_option maxRecDepth 100000 in
set_option maxHeartbeats 400000 in
theorem fromInt_neg (n : Int) (w : World) (h0 : n < 0) (h1 : -9223372036854775808 ≤ n) :
    Calls Try.prog 55 #[.int .i64 n] w fun e w' => ∃ v, e = .returned v ∧ WhZ w' v n ∧ Below w.heap.size w w' := by
  have HE : Hid (IntKind.u64.wrap (-IntKind.u64.wrap n) = -n) := by show _ = _; rw [wrap_u64, wrap_u64]; omega
  have b0 := Blk.new w 26 #[.bool false, .slice none 0 0]
  have l0 := b0.lt
  go_enter Try.func55, Try.ntmps55
  go_wp2_with (first | (go_at_call 60; rw [HE.out]; refine (limbsOf_any (-n) _ (by omega) (by omega)).mono ?_; rintro e w1 ⟨o, rfl, ho, hb1⟩; obtain ⟨m, A, c, Hm, rfl, hs⟩ := sl_len ho) | (go_at_call 54; refine (signed_any _ _ _ _ _).mono ?_; rintro e w2 ⟨rfl, hb2⟩; have d2 := (b0.below hb1 l0).below hb2 (Nat.lt_of_lt_of_le l0 hb1.size); have g4 := (d2.cell 0).trans (b := some (Value.bool false)) rfl; have g5 := (d2.cell 1).trans (b := some (Value.slice none 0 0)) rfl; have h4 := d2.frozen 0; have h5 := d2.frozen 1; have l4 := d2.lt))
  have d4 := (d2.set_ 0 (.bool (decide (0 < m)))).set_ 1 (.slice A m c)
  have r0 := (d4.cell 0).trans (b := some (Value.bool (decide (0 < m)))) rfl
  have r1 := (d4.cell 1).trans (b := some (Value.slice A m c)) rfl
  have s5 := (hs.below hb2).store2 d2 (decide (0 < m)) A m c
  have bz := (((Below.refl w.heap.size w).alloc (Nat.le_refl _) (.cells #[.bool false, .slice none 0 0] 26)).trans (hb1.mono (by simp))).trans (hb2.mono (Nat.le_trans (by simp) hb1.size))
  refine bodyPost_ret (v := .agg #[.bool (decide (0 < m)), .slice A m c]) (by simp [results, Try.f55, go_sem, r0, r1]) rfl ⟨_, rfl, ?_, (bz.setCell (p := ⟨w.heap.size, 0, none⟩) (Nat.le_refl _) _).setCell (p := ⟨w.heap.size, 1, none⟩) (Nat.le_refl _) _⟩
  rw [show Int.toNat (-n) = n.natAbs from by omega] at Hm s5
  have := signed_z (x := decide (n < 0)) (m := n.natAbs) (z := n) (A := A) (c := c) (sgn_abs n) (by rw [Hm.out]; exact s5)
  rw [Hm.out] at this
  rw [decide_eq_true h0, Bool.true_and] at this; exact this

end Go.Proofs.Ytgnidjhfiagfnaa
