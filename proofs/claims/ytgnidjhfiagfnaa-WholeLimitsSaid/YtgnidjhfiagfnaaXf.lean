/- The calls with what is no number, and what they return. Conditions: the numbers' lists lie in the heap as slices. -/
import Derived.Test.YtgnidjhfiagfnaaXe
namespace Go.Proofs.Ytgnidjhfiagfnaa
open Go.RowKit

theorem digs_zero0 : digs (Int.natAbs 0) = [] := by simp [digs]

theorem whz_wh {w : World} {v : Value} (h : WhZ w v 0) : Wh w v false [] := by
  obtain ⟨A, c, rfl, hs⟩ := h
  rw [digs_zero0] at hs ⊢
  exact ⟨A, c, rfl, hs⟩

theorem zero_cells {w : World} {v : Value} (h : WhZ w v 0) : ∃ (n : Nat) (A : Option Addr) (c : Nat), Hid (n = 0) ∧ v = .agg #[.bool false, .slice A n c] := by
  obtain ⟨A, c, rfl, hs⟩ := h
  rw [digs_zero0]
  exact ⟨_, A, c, rfl, rfl⟩

set_option maxRecDepth 100000 in
set_option maxHeartbeats 2000000 in
theorem wrong_tt {x y : Bool} {la lb : List Nat} {A B : Option Addr} {na nb ca cb : Nat} {w : World} (sa : Wh w (.agg #[.bool x, .slice A na ca]) x la) (sb : Wh w (.agg #[.bool y, .slice B nb cb]) y lb) (hx : validB x la = true) (hy : validB y lb = true) (_lA : na ≤ 70368744177664) (_lB : nb ≤ 70368744177664) :
    Calls Try.prog 11 #[.agg #[.bool x, .slice A na ca], .agg #[.bool y, .slice B nb cb]] w fun e w' => e = .returned (.bool true) ∧ Below w.heap.size w w' := by
  have b0 : Blk ((w.alloc (.cells #[.bool x, .slice A na ca] 26)).alloc (.cells #[.bool y, .slice B nb cb] 26)) w.heap.size 26 #[.bool x, .slice A na ca] := (Blk.new w _ _).alloc _
  have b1 : Blk ((w.alloc (.cells #[.bool x, .slice A na ca] 26)).alloc (.cells #[.bool y, .slice B nb cb] 26)) (w.heap.size + 1) 26 #[.bool y, .slice B nb cb] := by
    have := (Blk.new (w.alloc (.cells #[.bool x, .slice A na ca] 26)) 26 #[.bool y, .slice B nb cb])
    rwa [World.size_alloc] at this
  have bw : Below w.heap.size w ((w.alloc (.cells #[.bool x, .slice A na ca] 26)).alloc (.cells #[.bool y, .slice B nb cb] 26)) := (by repeat (first | exact Below.refl _ _ | assumption | refine Below.alloc ?_ (by first | (simp; done) | (simp; omega) | omega) _ | refine Below.setCell ?_ (by first | (simp; done) | (simp; omega) | omega) _ | refine Below.drew ?_))
  replace sa := sa.below bw
  replace sb := sb.below bw
  go_enter Try.func11, Try.ntmps11
  go_wp2_with fail
  refine (awake_any _).mono ?_
  rintro e u1 ⟨rfl, hb1⟩
  have ch1 := bw.trans (hb1.mono bw.size)
  replace b0 := b0.below hb1 b0.lt
  replace b1 := b1.below hb1 b1.lt
  replace sa := sa.below hb1
  replace sb := sb.below hb1
  have cA := (b0.cell 0).trans (b := some (Value.bool x)) rfl
  have cB := (b0.cell 1).trans (b := some (Value.slice A na ca)) rfl
  have cC := (b1.cell 0).trans (b := some (Value.bool y)) rfl
  have cD := (b1.cell 1).trans (b := some (Value.slice B nb cb)) rfl
  go_wp2_with fail
  refine (valid_wh sa).mono ?_
  rintro e u2 ⟨rfl, hb2⟩
  have ch2 := ch1.trans (hb2.mono ch1.size)
  replace b0 := b0.below hb2 b0.lt
  replace b1 := b1.below hb2 b1.lt
  replace sa := sa.below hb2
  replace sb := sb.below hb2
  rw [hx]
  clear cA cB cC cD
  have cA := (b0.cell 0).trans (b := some (Value.bool x)) rfl
  have cB := (b0.cell 1).trans (b := some (Value.slice A na ca)) rfl
  have cC := (b1.cell 0).trans (b := some (Value.bool y)) rfl
  have cD := (b1.cell 1).trans (b := some (Value.slice B nb cb)) rfl
  go_wp2_with fail
  refine (valid_wh sb).mono ?_
  rintro e u3 ⟨rfl, hb3⟩
  have ch3 := ch2.trans (hb3.mono ch2.size)
  replace b0 := b0.below hb3 b0.lt
  replace b1 := b1.below hb3 b1.lt
  replace sa := sa.below hb3
  replace sb := sb.below hb3
  rw [hy]
  clear cA cB cC cD
  have cA := (b0.cell 0).trans (b := some (Value.bool x)) rfl
  have cB := (b0.cell 1).trans (b := some (Value.slice A na ca)) rfl
  have cC := (b1.cell 0).trans (b := some (Value.bool y)) rfl
  have cD := (b1.cell 1).trans (b := some (Value.slice B nb cb)) rfl
  go_wp2
  all_goals (go_ret; exact ⟨rfl, ch3⟩)

set_option maxRecDepth 100000 in
set_option maxHeartbeats 2000000 in
theorem wrong_t_long {x y : Bool} {la lb : List Nat} {A B : Option Addr} {na nb ca cb : Nat} {w : World} (sa : Wh w (.agg #[.bool x, .slice A na ca]) x la) (sb : Wh w (.agg #[.bool y, .slice B nb cb]) y lb) (hx : validB x la = true) (hy : validB y lb = false) (lA : na ≤ 70368744177664) (lB : nb ≤ 70368744177664) (hl : 2000 < na ∨ 2000 < nb) :
    Calls Try.prog 11 #[.agg #[.bool x, .slice A na ca], .agg #[.bool y, .slice B nb cb]] w fun e w' => e = .returned (.bool true) ∧ Below w.heap.size w w' := by
  have b0 : Blk ((w.alloc (.cells #[.bool x, .slice A na ca] 26)).alloc (.cells #[.bool y, .slice B nb cb] 26)) w.heap.size 26 #[.bool x, .slice A na ca] := (Blk.new w _ _).alloc _
  have b1 : Blk ((w.alloc (.cells #[.bool x, .slice A na ca] 26)).alloc (.cells #[.bool y, .slice B nb cb] 26)) (w.heap.size + 1) 26 #[.bool y, .slice B nb cb] := by
    have := (Blk.new (w.alloc (.cells #[.bool x, .slice A na ca] 26)) 26 #[.bool y, .slice B nb cb])
    rwa [World.size_alloc] at this
  have bw : Below w.heap.size w ((w.alloc (.cells #[.bool x, .slice A na ca] 26)).alloc (.cells #[.bool y, .slice B nb cb] 26)) := (by repeat (first | exact Below.refl _ _ | assumption | refine Below.alloc ?_ (by first | (simp; done) | (simp; omega) | omega) _ | refine Below.setCell ?_ (by first | (simp; done) | (simp; omega) | omega) _ | refine Below.drew ?_))
  replace sa := sa.below bw
  replace sb := sb.below bw
  go_enter Try.func11, Try.ntmps11
  go_wp2_with fail
  refine (awake_any _).mono ?_
  rintro e u1 ⟨rfl, hb1⟩
  have ch1 := bw.trans (hb1.mono bw.size)
  replace b0 := b0.below hb1 b0.lt
  replace b1 := b1.below hb1 b1.lt
  replace sa := sa.below hb1
  replace sb := sb.below hb1
  have cA := (b0.cell 0).trans (b := some (Value.bool x)) rfl
  have cB := (b0.cell 1).trans (b := some (Value.slice A na ca)) rfl
  have cC := (b1.cell 0).trans (b := some (Value.bool y)) rfl
  have cD := (b1.cell 1).trans (b := some (Value.slice B nb cb)) rfl
  go_wp2_with fail
  refine (valid_wh sa).mono ?_
  rintro e u2 ⟨rfl, hb2⟩
  have ch2 := ch1.trans (hb2.mono ch1.size)
  replace b0 := b0.below hb2 b0.lt
  replace b1 := b1.below hb2 b1.lt
  replace sa := sa.below hb2
  replace sb := sb.below hb2
  rw [hx]
  clear cA cB cC cD
  have cA := (b0.cell 0).trans (b := some (Value.bool x)) rfl
  have cB := (b0.cell 1).trans (b := some (Value.slice A na ca)) rfl
  have cC := (b1.cell 0).trans (b := some (Value.bool y)) rfl
  have cD := (b1.cell 1).trans (b := some (Value.slice B nb cb)) rfl
  go_wp2_with fail
  refine (valid_wh sb).mono ?_
  rintro e u3 ⟨rfl, hb3⟩
  have ch3 := ch2.trans (hb3.mono ch2.size)
  replace b0 := b0.below hb3 b0.lt
  replace b1 := b1.below hb3 b1.lt
  replace sa := sa.below hb3
  replace sb := sb.below hb3
  rw [hy]
  clear cA cB cC cD
  have cA := (b0.cell 0).trans (b := some (Value.bool x)) rfl
  have cB := (b0.cell 1).trans (b := some (Value.slice A na ca)) rfl
  have cC := (b1.cell 0).trans (b := some (Value.bool y)) rfl
  have cD := (b1.cell 1).trans (b := some (Value.slice B nb cb)) rfl
  go_wp2
  all_goals (go_ret; exact ⟨rfl, ch3⟩)

set_option maxRecDepth 100000 in
set_option maxHeartbeats 2000000 in
theorem wrong_f_long {x y : Bool} {la lb : List Nat} {A B : Option Addr} {na nb ca cb : Nat} {w : World} (sa : Wh w (.agg #[.bool x, .slice A na ca]) x la) (sb : Wh w (.agg #[.bool y, .slice B nb cb]) y lb) (hx : validB x la = false) (lA : na ≤ 70368744177664) (lB : nb ≤ 70368744177664) (hl : 2000 < na ∨ 2000 < nb) :
    Calls Try.prog 11 #[.agg #[.bool x, .slice A na ca], .agg #[.bool y, .slice B nb cb]] w fun e w' => e = .returned (.bool true) ∧ Below w.heap.size w w' := by
  have b0 : Blk ((w.alloc (.cells #[.bool x, .slice A na ca] 26)).alloc (.cells #[.bool y, .slice B nb cb] 26)) w.heap.size 26 #[.bool x, .slice A na ca] := (Blk.new w _ _).alloc _
  have b1 : Blk ((w.alloc (.cells #[.bool x, .slice A na ca] 26)).alloc (.cells #[.bool y, .slice B nb cb] 26)) (w.heap.size + 1) 26 #[.bool y, .slice B nb cb] := by
    have := (Blk.new (w.alloc (.cells #[.bool x, .slice A na ca] 26)) 26 #[.bool y, .slice B nb cb])
    rwa [World.size_alloc] at this
  have bw : Below w.heap.size w ((w.alloc (.cells #[.bool x, .slice A na ca] 26)).alloc (.cells #[.bool y, .slice B nb cb] 26)) := (by repeat (first | exact Below.refl _ _ | assumption | refine Below.alloc ?_ (by first | (simp; done) | (simp; omega) | omega) _ | refine Below.setCell ?_ (by first | (simp; done) | (simp; omega) | omega) _ | refine Below.drew ?_))
  replace sa := sa.below bw
  replace sb := sb.below bw
  go_enter Try.func11, Try.ntmps11
  go_wp2_with fail
  refine (awake_any _).mono ?_
  rintro e u1 ⟨rfl, hb1⟩
  have ch1 := bw.trans (hb1.mono bw.size)
  replace b0 := b0.below hb1 b0.lt
  replace b1 := b1.below hb1 b1.lt
  replace sa := sa.below hb1
  replace sb := sb.below hb1
  have cA := (b0.cell 0).trans (b := some (Value.bool x)) rfl
  have cB := (b0.cell 1).trans (b := some (Value.slice A na ca)) rfl
  have cC := (b1.cell 0).trans (b := some (Value.bool y)) rfl
  have cD := (b1.cell 1).trans (b := some (Value.slice B nb cb)) rfl
  go_wp2_with fail
  refine (valid_wh sa).mono ?_
  rintro e u2 ⟨rfl, hb2⟩
  have ch2 := ch1.trans (hb2.mono ch1.size)
  replace b0 := b0.below hb2 b0.lt
  replace b1 := b1.below hb2 b1.lt
  replace sa := sa.below hb2
  replace sb := sb.below hb2
  rw [hx]
  clear cA cB cC cD
  have cA := (b0.cell 0).trans (b := some (Value.bool x)) rfl
  have cB := (b0.cell 1).trans (b := some (Value.slice A na ca)) rfl
  have cC := (b1.cell 0).trans (b := some (Value.bool y)) rfl
  have cD := (b1.cell 1).trans (b := some (Value.slice B nb cb)) rfl
  go_wp2
  all_goals (go_ret; exact ⟨rfl, ch2⟩)

set_option maxRecDepth 100000 in
set_option maxHeartbeats 2000000 in
theorem wrong_t {x y : Bool} {la lb : List Nat} {A B : Option Addr} {na nb ca cb : Nat} {w : World} (sa : Wh w (.agg #[.bool x, .slice A na ca]) x la) (sb : Wh w (.agg #[.bool y, .slice B nb cb]) y lb) (hx : validB x la = true) (hy : validB y lb = false) (lA : na ≤ 70368744177664) (lB : nb ≤ 70368744177664) (hla : na ≤ 2000) (hlb : nb ≤ 2000) :
    Calls Try.prog 11 #[.agg #[.bool x, .slice A na ca], .agg #[.bool y, .slice B nb cb]] w fun e w' => e = .returned (.bool true) ∧ Below w.heap.size w w' := by
  have b0 : Blk ((w.alloc (.cells #[.bool x, .slice A na ca] 26)).alloc (.cells #[.bool y, .slice B nb cb] 26)) w.heap.size 26 #[.bool x, .slice A na ca] := (Blk.new w _ _).alloc _
  have b1 : Blk ((w.alloc (.cells #[.bool x, .slice A na ca] 26)).alloc (.cells #[.bool y, .slice B nb cb] 26)) (w.heap.size + 1) 26 #[.bool y, .slice B nb cb] := by
    have := (Blk.new (w.alloc (.cells #[.bool x, .slice A na ca] 26)) 26 #[.bool y, .slice B nb cb])
    rwa [World.size_alloc] at this
  have bw : Below w.heap.size w ((w.alloc (.cells #[.bool x, .slice A na ca] 26)).alloc (.cells #[.bool y, .slice B nb cb] 26)) := (by repeat (first | exact Below.refl _ _ | assumption | refine Below.alloc ?_ (by first | (simp; done) | (simp; omega) | omega) _ | refine Below.setCell ?_ (by first | (simp; done) | (simp; omega) | omega) _ | refine Below.drew ?_))
  replace sa := sa.below bw
  replace sb := sb.below bw
  have hv : (validB x la && validB y lb) = false := by rw [hx, hy]; rfl
  go_enter Try.func11, Try.ntmps11
  go_wp2_with fail
  refine (awake_any _).mono ?_
  rintro e u1 ⟨rfl, hb1⟩
  have ch1 := bw.trans (hb1.mono bw.size)
  replace b0 := b0.below hb1 b0.lt
  replace b1 := b1.below hb1 b1.lt
  replace sa := sa.below hb1
  replace sb := sb.below hb1
  have cA := (b0.cell 0).trans (b := some (Value.bool x)) rfl
  have cB := (b0.cell 1).trans (b := some (Value.slice A na ca)) rfl
  have cC := (b1.cell 0).trans (b := some (Value.bool y)) rfl
  have cD := (b1.cell 1).trans (b := some (Value.slice B nb cb)) rfl
  go_wp2_with fail
  refine (valid_wh sa).mono ?_
  rintro e u2 ⟨rfl, hb2⟩
  have ch2 := ch1.trans (hb2.mono ch1.size)
  replace b0 := b0.below hb2 b0.lt
  replace b1 := b1.below hb2 b1.lt
  replace sa := sa.below hb2
  replace sb := sb.below hb2
  rw [hx]
  clear cA cB cC cD
  have cA := (b0.cell 0).trans (b := some (Value.bool x)) rfl
  have cB := (b0.cell 1).trans (b := some (Value.slice A na ca)) rfl
  have cC := (b1.cell 0).trans (b := some (Value.bool y)) rfl
  have cD := (b1.cell 1).trans (b := some (Value.slice B nb cb)) rfl
  go_wp2_with fail
  refine (valid_wh sb).mono ?_
  rintro e u3 ⟨rfl, hb3⟩
  have ch3 := ch2.trans (hb3.mono ch2.size)
  replace b0 := b0.below hb3 b0.lt
  replace b1 := b1.below hb3 b1.lt
  replace sa := sa.below hb3
  replace sb := sb.below hb3
  rw [hy]
  clear cA cB cC cD
  have cA := (b0.cell 0).trans (b := some (Value.bool x)) rfl
  have cB := (b0.cell 1).trans (b := some (Value.slice A na ca)) rfl
  have cC := (b1.cell 0).trans (b := some (Value.bool y)) rfl
  have cD := (b1.cell 1).trans (b := some (Value.slice B nb cb)) rfl
  go_wp2_with fail
  refine (add_inv sa sb hv).mono ?_
  rintro e v0 ⟨q0, rfl, z0, hc0⟩
  have ch4 := ch3.trans (hc0.mono ch3.size)
  replace b0 := b0.below hc0 b0.lt
  replace b1 := b1.below hc0 b1.lt
  replace sa := sa.below hc0
  replace sb := sb.below hc0
  clear cA cB cC cD
  obtain ⟨n0, A0, c0, Hn0, rfl⟩ := zero_cells z0
  have al0 : Below v0.heap.size v0 (v0.alloc (.cells #[.bool false, .slice A0 n0 c0] 26)) := (Below.refl _ _).alloc (Nat.le_refl _) _
  have N0 : Held (v0.alloc (.cells #[.bool false, .slice A0 n0 c0] 26)) v0.heap.size 0 := Held.new (W := v0) (z := 0) z0
  have ch5 := ch4.trans (al0.mono ch4.size)
  replace b0 := b0.below al0 b0.lt
  replace b1 := b1.below al0 b1.lt
  replace sa := sa.below al0
  replace sb := sb.below al0
  clear z0
  have cA := (b0.cell 0).trans (b := some (Value.bool x)) rfl
  have cB := (b0.cell 1).trans (b := some (Value.slice A na ca)) rfl
  have cC := (b1.cell 0).trans (b := some (Value.bool y)) rfl
  have cD := (b1.cell 1).trans (b := some (Value.slice B nb cb)) rfl
  go_wp2_with fail
  refine (sub_inv sa sb hv).mono ?_
  rintro e v1 ⟨q1, rfl, z1, hc1⟩
  have ch6 := ch5.trans (hc1.mono ch5.size)
  replace b0 := b0.below hc1 b0.lt
  replace b1 := b1.below hc1 b1.lt
  replace sa := sa.below hc1
  replace sb := sb.below hc1
  replace N0 := N0.below hc1
  clear cA cB cC cD
  obtain ⟨n1, A1, c1, Hn1, rfl⟩ := zero_cells z1
  have al1 : Below v1.heap.size v1 (v1.alloc (.cells #[.bool false, .slice A1 n1 c1] 26)) := (Below.refl _ _).alloc (Nat.le_refl _) _
  have N1 : Held (v1.alloc (.cells #[.bool false, .slice A1 n1 c1] 26)) v1.heap.size 0 := Held.new (W := v1) (z := 0) z1
  have ch7 := ch6.trans (al1.mono ch6.size)
  replace b0 := b0.below al1 b0.lt
  replace b1 := b1.below al1 b1.lt
  replace sa := sa.below al1
  replace sb := sb.below al1
  replace N0 := N0.below al1
  clear z1
  have cA := (b0.cell 0).trans (b := some (Value.bool x)) rfl
  have cB := (b0.cell 1).trans (b := some (Value.slice A na ca)) rfl
  have cC := (b1.cell 0).trans (b := some (Value.bool y)) rfl
  have cD := (b1.cell 1).trans (b := some (Value.slice B nb cb)) rfl
  go_wp2_with fail
  refine (mul_inv sa sb hv).mono ?_
  rintro e v2 ⟨q2, rfl, z2, hc2⟩
  have ch8 := ch7.trans (hc2.mono ch7.size)
  replace b0 := b0.below hc2 b0.lt
  replace b1 := b1.below hc2 b1.lt
  replace sa := sa.below hc2
  replace sb := sb.below hc2
  replace N0 := N0.below hc2
  replace N1 := N1.below hc2
  clear cA cB cC cD
  obtain ⟨n2, A2, c2, Hn2, rfl⟩ := zero_cells z2
  have al2 : Below v2.heap.size v2 (v2.alloc (.cells #[.bool false, .slice A2 n2 c2] 26)) := (Below.refl _ _).alloc (Nat.le_refl _) _
  have N2 : Held (v2.alloc (.cells #[.bool false, .slice A2 n2 c2] 26)) v2.heap.size 0 := Held.new (W := v2) (z := 0) z2
  have ch9 := ch8.trans (al2.mono ch8.size)
  replace b0 := b0.below al2 b0.lt
  replace b1 := b1.below al2 b1.lt
  replace sa := sa.below al2
  replace sb := sb.below al2
  replace N0 := N0.below al2
  replace N1 := N1.below al2
  clear z2
  have cA := (b0.cell 0).trans (b := some (Value.bool x)) rfl
  have cB := (b0.cell 1).trans (b := some (Value.slice A na ca)) rfl
  have cC := (b1.cell 0).trans (b := some (Value.bool y)) rfl
  have cD := (b1.cell 1).trans (b := some (Value.slice B nb cb)) rfl
  go_wp2_with fail
  refine (divmod_inv sa sb hv).mono ?_
  rintro e v3 ⟨q3, r3, rfl, z3, x3, hc3⟩
  have ch10 := ch9.trans (hc3.mono ch9.size)
  replace b0 := b0.below hc3 b0.lt
  replace b1 := b1.below hc3 b1.lt
  replace sa := sa.below hc3
  replace sb := sb.below hc3
  replace N0 := N0.below hc3
  replace N1 := N1.below hc3
  replace N2 := N2.below hc3
  clear cA cB cC cD
  obtain ⟨n3, A3, c3, Hn3, rfl⟩ := zero_cells z3
  obtain ⟨m3, B3, d3, Hm3, rfl⟩ := zero_cells x3
  have al3 : Below v3.heap.size v3 (v3.alloc (.cells #[.bool false, .slice A3 n3 c3] 26)) := (Below.refl _ _).alloc (Nat.le_refl _) _
  have N3 : Held (v3.alloc (.cells #[.bool false, .slice A3 n3 c3] 26)) v3.heap.size 0 := Held.new (W := v3) (z := 0) z3
  have ch11 := ch10.trans (al3.mono ch10.size)
  replace b0 := b0.below al3 b0.lt
  replace b1 := b1.below al3 b1.lt
  replace sa := sa.below al3
  replace sb := sb.below al3
  replace N0 := N0.below al3
  replace N1 := N1.below al3
  replace N2 := N2.below al3
  have am3 : Below (v3.alloc (.cells #[.bool false, .slice A3 n3 c3] 26)).heap.size (v3.alloc (.cells #[.bool false, .slice A3 n3 c3] 26)) ((v3.alloc (.cells #[.bool false, .slice A3 n3 c3] 26)).alloc (.cells #[.bool false, .slice B3 m3 d3] 26)) := (Below.refl _ _).alloc (Nat.le_refl _) _
  have M3 : Held ((v3.alloc (.cells #[.bool false, .slice A3 n3 c3] 26)).alloc (.cells #[.bool false, .slice B3 m3 d3] 26)) (v3.heap.size + 1) 0 := by
    have hh : Held ((v3.alloc (.cells #[.bool false, .slice A3 n3 c3] 26)).alloc (.cells #[.bool false, .slice B3 m3 d3] 26)) (v3.alloc (.cells #[.bool false, .slice A3 n3 c3] 26)).heap.size 0 := Held.new (W := (v3.alloc (.cells #[.bool false, .slice A3 n3 c3] 26))) (z := 0) (x3.below al3)
    rwa [World.size_alloc] at hh
  have ch12 := ch11.trans (am3.mono ch11.size)
  replace b0 := b0.below am3 b0.lt
  replace b1 := b1.below am3 b1.lt
  replace sa := sa.below am3
  replace sb := sb.below am3
  replace N0 := N0.below am3
  replace N1 := N1.below am3
  replace N2 := N2.below am3
  replace N3 := N3.below am3
  clear z3 x3
  have cA := (b0.cell 0).trans (b := some (Value.bool x)) rfl
  have cB := (b0.cell 1).trans (b := some (Value.slice A na ca)) rfl
  have cC := (b1.cell 0).trans (b := some (Value.bool y)) rfl
  have cD := (b1.cell 1).trans (b := some (Value.slice B nb cb)) rfl
  go_wp2_with fail
  refine (gcd_inv sa sb hv).mono ?_
  rintro e v4 ⟨q4, rfl, z4, hc4⟩
  have ch13 := ch12.trans (hc4.mono ch12.size)
  replace b0 := b0.below hc4 b0.lt
  replace b1 := b1.below hc4 b1.lt
  replace sa := sa.below hc4
  replace sb := sb.below hc4
  replace N0 := N0.below hc4
  replace N1 := N1.below hc4
  replace N2 := N2.below hc4
  replace N3 := N3.below hc4
  replace M3 := M3.below hc4
  clear cA cB cC cD
  obtain ⟨n4, A4, c4, Hn4, rfl⟩ := zero_cells z4
  have al4 : Below v4.heap.size v4 (v4.alloc (.cells #[.bool false, .slice A4 n4 c4] 26)) := (Below.refl _ _).alloc (Nat.le_refl _) _
  have N4 : Held (v4.alloc (.cells #[.bool false, .slice A4 n4 c4] 26)) v4.heap.size 0 := Held.new (W := v4) (z := 0) z4
  have ch14 := ch13.trans (al4.mono ch13.size)
  replace b0 := b0.below al4 b0.lt
  replace b1 := b1.below al4 b1.lt
  replace sa := sa.below al4
  replace sb := sb.below al4
  replace N0 := N0.below al4
  replace N1 := N1.below al4
  replace N2 := N2.below al4
  replace N3 := N3.below al4
  replace M3 := M3.below al4
  clear z4
  have ao : Below (v4.alloc (.cells #[.bool false, .slice A4 n4 c4] 26)).heap.size (v4.alloc (.cells #[.bool false, .slice A4 n4 c4] 26)) ((v4.alloc (.cells #[.bool false, .slice A4 n4 c4] 26)).alloc (.cells #[.bool false, .slice none 0 0] 26)) := (Below.refl _ _).alloc (Nat.le_refl _) _
  have O : Held ((v4.alloc (.cells #[.bool false, .slice A4 n4 c4] 26)).alloc (.cells #[.bool false, .slice none 0 0] 26)) (v4.heap.size + 1) 0 := by
    have hh : Held ((v4.alloc (.cells #[.bool false, .slice A4 n4 c4] 26)).alloc (.cells #[.bool false, .slice none 0 0] 26)) (v4.alloc (.cells #[.bool false, .slice A4 n4 c4] 26)).heap.size 0 := Held.new (W := (v4.alloc (.cells #[.bool false, .slice A4 n4 c4] 26))) (z := 0) (whz_zero _)
    rwa [World.size_alloc] at hh
  have ch15 := ch14.trans (ao.mono ch14.size)
  replace b0 := b0.below ao b0.lt
  replace b1 := b1.below ao b1.lt
  replace sa := sa.below ao
  replace sb := sb.below ao
  replace N0 := N0.below ao
  replace N1 := N1.below ao
  replace N2 := N2.below ao
  replace N3 := N3.below ao
  replace M3 := M3.below ao
  replace N4 := N4.below ao
  have cA := (b0.cell 0).trans (b := some (Value.bool x)) rfl
  have cB := (b0.cell 1).trans (b := some (Value.slice A na ca)) rfl
  have cC := (b1.cell 0).trans (b := some (Value.bool y)) rfl
  have cD := (b1.cell 1).trans (b := some (Value.slice B nb cb)) rfl
  go_wp2_with fail
  refine (cmp_inv sa sb hv).mono ?_
  rintro e u5 ⟨rfl, hb5⟩
  have ch16 := ch15.trans (hb5.mono ch15.size)
  replace b0 := b0.below hb5 b0.lt
  replace b1 := b1.below hb5 b1.lt
  replace sa := sa.below hb5
  replace sb := sb.below hb5
  replace N0 := N0.below hb5
  replace N1 := N1.below hb5
  replace N2 := N2.below hb5
  replace N3 := N3.below hb5
  replace M3 := M3.below hb5
  replace N4 := N4.below hb5
  replace O := O.below hb5
  clear cA cB cC cD
  have cA := (b0.cell 0).trans (b := some (Value.bool x)) rfl
  have cB := (b0.cell 1).trans (b := some (Value.slice A na ca)) rfl
  have cC := (b1.cell 0).trans (b := some (Value.bool y)) rfl
  have cD := (b1.cell 1).trans (b := some (Value.slice B nb cb)) rfl
  go_wp2_with fail
  refine (cmp_inv sb sa (by rw [Bool.and_comm]; exact hv)).mono ?_
  rintro e u6 ⟨rfl, hb6⟩
  have ch17 := ch16.trans (hb6.mono ch16.size)
  replace b0 := b0.below hb6 b0.lt
  replace b1 := b1.below hb6 b1.lt
  replace sa := sa.below hb6
  replace sb := sb.below hb6
  replace N0 := N0.below hb6
  replace N1 := N1.below hb6
  replace N2 := N2.below hb6
  replace N3 := N3.below hb6
  replace M3 := M3.below hb6
  replace N4 := N4.below hb6
  replace O := O.below hb6
  clear cA cB cC cD
  obtain ⟨P0, p0, q_0, bk0, zz0⟩ := N0
  obtain ⟨PO0, po0, qo0, bo0, zo0⟩ := O
  have O : Held _ (v4.heap.size + 1) 0 := ⟨PO0, po0, qo0, bo0, zo0⟩
  have eA0 := (bk0.cell 0).trans (b := some (Value.bool false)) rfl
  have eB0 := (bk0.cell 1).trans (b := some (Value.slice P0 p0 q_0)) rfl
  have eC0 := (bo0.cell 0).trans (b := some (Value.bool false)) rfl
  have eD0 := (bo0.cell 1).trans (b := some (Value.slice PO0 po0 qo0)) rfl
  go_wp2_with fail
  refine (equal_wh (whz_wh zz0) (whz_wh zo0)).mono ?_
  rintro e t0 ⟨rfl, hi0⟩
  rw [show (validB false [] && validB false [] && decide (false = false ∧ ([] : List Nat) = [])) = true from rfl]
  have ch18 := ch17.trans (hi0.mono ch17.size)
  replace b0 := b0.below hi0 b0.lt
  replace b1 := b1.below hi0 b1.lt
  replace sa := sa.below hi0
  replace sb := sb.below hi0
  replace N1 := N1.below hi0
  replace N2 := N2.below hi0
  replace N3 := N3.below hi0
  replace M3 := M3.below hi0
  replace N4 := N4.below hi0
  replace O := O.below hi0
  clear eA0 eB0 eC0 eD0 bk0 bo0 zz0 zo0
  obtain ⟨P1, p1, q_1, bk1, zz1⟩ := N1
  obtain ⟨PO1, po1, qo1, bo1, zo1⟩ := O
  have O : Held _ (v4.heap.size + 1) 0 := ⟨PO1, po1, qo1, bo1, zo1⟩
  have eA1 := (bk1.cell 0).trans (b := some (Value.bool false)) rfl
  have eB1 := (bk1.cell 1).trans (b := some (Value.slice P1 p1 q_1)) rfl
  have eC1 := (bo1.cell 0).trans (b := some (Value.bool false)) rfl
  have eD1 := (bo1.cell 1).trans (b := some (Value.slice PO1 po1 qo1)) rfl
  go_wp2_with fail
  refine (equal_wh (whz_wh zz1) (whz_wh zo1)).mono ?_
  rintro e t1 ⟨rfl, hi1⟩
  rw [show (validB false [] && validB false [] && decide (false = false ∧ ([] : List Nat) = [])) = true from rfl]
  have ch19 := ch18.trans (hi1.mono ch18.size)
  replace b0 := b0.below hi1 b0.lt
  replace b1 := b1.below hi1 b1.lt
  replace sa := sa.below hi1
  replace sb := sb.below hi1
  replace N2 := N2.below hi1
  replace N3 := N3.below hi1
  replace M3 := M3.below hi1
  replace N4 := N4.below hi1
  replace O := O.below hi1
  clear eA1 eB1 eC1 eD1 bk1 bo1 zz1 zo1
  obtain ⟨P2, p2, q_2, bk2, zz2⟩ := N2
  obtain ⟨PO2, po2, qo2, bo2, zo2⟩ := O
  have O : Held _ (v4.heap.size + 1) 0 := ⟨PO2, po2, qo2, bo2, zo2⟩
  have eA2 := (bk2.cell 0).trans (b := some (Value.bool false)) rfl
  have eB2 := (bk2.cell 1).trans (b := some (Value.slice P2 p2 q_2)) rfl
  have eC2 := (bo2.cell 0).trans (b := some (Value.bool false)) rfl
  have eD2 := (bo2.cell 1).trans (b := some (Value.slice PO2 po2 qo2)) rfl
  go_wp2_with fail
  refine (equal_wh (whz_wh zz2) (whz_wh zo2)).mono ?_
  rintro e t2 ⟨rfl, hi2⟩
  rw [show (validB false [] && validB false [] && decide (false = false ∧ ([] : List Nat) = [])) = true from rfl]
  have ch20 := ch19.trans (hi2.mono ch19.size)
  replace b0 := b0.below hi2 b0.lt
  replace b1 := b1.below hi2 b1.lt
  replace sa := sa.below hi2
  replace sb := sb.below hi2
  replace N3 := N3.below hi2
  replace M3 := M3.below hi2
  replace N4 := N4.below hi2
  replace O := O.below hi2
  clear eA2 eB2 eC2 eD2 bk2 bo2 zz2 zo2
  obtain ⟨P3, p3, q_3, bk3, zz3⟩ := N3
  obtain ⟨PO3, po3, qo3, bo3, zo3⟩ := O
  have O : Held _ (v4.heap.size + 1) 0 := ⟨PO3, po3, qo3, bo3, zo3⟩
  have eA3 := (bk3.cell 0).trans (b := some (Value.bool false)) rfl
  have eB3 := (bk3.cell 1).trans (b := some (Value.slice P3 p3 q_3)) rfl
  have eC3 := (bo3.cell 0).trans (b := some (Value.bool false)) rfl
  have eD3 := (bo3.cell 1).trans (b := some (Value.slice PO3 po3 qo3)) rfl
  go_wp2_with fail
  refine (equal_wh (whz_wh zz3) (whz_wh zo3)).mono ?_
  rintro e t3 ⟨rfl, hi3⟩
  rw [show (validB false [] && validB false [] && decide (false = false ∧ ([] : List Nat) = [])) = true from rfl]
  have ch21 := ch20.trans (hi3.mono ch20.size)
  replace b0 := b0.below hi3 b0.lt
  replace b1 := b1.below hi3 b1.lt
  replace sa := sa.below hi3
  replace sb := sb.below hi3
  replace M3 := M3.below hi3
  replace N4 := N4.below hi3
  replace O := O.below hi3
  clear eA3 eB3 eC3 eD3 bk3 bo3 zz3 zo3
  obtain ⟨P4, p4, q_4, bk4, zz4⟩ := M3
  obtain ⟨PO4, po4, qo4, bo4, zo4⟩ := O
  have O : Held _ (v4.heap.size + 1) 0 := ⟨PO4, po4, qo4, bo4, zo4⟩
  have eA4 := (bk4.cell 0).trans (b := some (Value.bool false)) rfl
  have eB4 := (bk4.cell 1).trans (b := some (Value.slice P4 p4 q_4)) rfl
  have eC4 := (bo4.cell 0).trans (b := some (Value.bool false)) rfl
  have eD4 := (bo4.cell 1).trans (b := some (Value.slice PO4 po4 qo4)) rfl
  go_wp2_with fail
  refine (equal_wh (whz_wh zz4) (whz_wh zo4)).mono ?_
  rintro e t4 ⟨rfl, hi4⟩
  rw [show (validB false [] && validB false [] && decide (false = false ∧ ([] : List Nat) = [])) = true from rfl]
  have ch22 := ch21.trans (hi4.mono ch21.size)
  replace b0 := b0.below hi4 b0.lt
  replace b1 := b1.below hi4 b1.lt
  replace sa := sa.below hi4
  replace sb := sb.below hi4
  replace N4 := N4.below hi4
  replace O := O.below hi4
  clear eA4 eB4 eC4 eD4 bk4 bo4 zz4 zo4
  obtain ⟨P5, p5, q_5, bk5, zz5⟩ := N4
  obtain ⟨PO5, po5, qo5, bo5, zo5⟩ := O
  have O : Held _ (v4.heap.size + 1) 0 := ⟨PO5, po5, qo5, bo5, zo5⟩
  have eA5 := (bk5.cell 0).trans (b := some (Value.bool false)) rfl
  have eB5 := (bk5.cell 1).trans (b := some (Value.slice P5 p5 q_5)) rfl
  have eC5 := (bo5.cell 0).trans (b := some (Value.bool false)) rfl
  have eD5 := (bo5.cell 1).trans (b := some (Value.slice PO5 po5 qo5)) rfl
  go_wp2_with fail
  refine (equal_wh (whz_wh zz5) (whz_wh zo5)).mono ?_
  rintro e t5 ⟨rfl, hi5⟩
  rw [show (validB false [] && validB false [] && decide (false = false ∧ ([] : List Nat) = [])) = true from rfl]
  have ch23 := ch22.trans (hi5.mono ch22.size)
  replace b0 := b0.below hi5 b0.lt
  replace b1 := b1.below hi5 b1.lt
  replace sa := sa.below hi5
  replace sb := sb.below hi5
  replace O := O.below hi5
  clear eA5 eB5 eC5 eD5 bk5 bo5 zz5 zo5
  have cA := (b0.cell 0).trans (b := some (Value.bool x)) rfl
  have cB := (b0.cell 1).trans (b := some (Value.slice A na ca)) rfl
  have cC := (b1.cell 0).trans (b := some (Value.bool y)) rfl
  have cD := (b1.cell 1).trans (b := some (Value.slice B nb cb)) rfl
  go_wp2_with fail
  refine (valid_wh sa).mono ?_
  rintro e u8 ⟨rfl, hb8⟩
  have ch24 := ch23.trans (hb8.mono ch23.size)
  replace b0 := b0.below hb8 b0.lt
  replace b1 := b1.below hb8 b1.lt
  replace sa := sa.below hb8
  replace sb := sb.below hb8
  replace O := O.below hb8
  rw [hx]
  clear cA cB cC cD
  have cA := (b0.cell 0).trans (b := some (Value.bool x)) rfl
  have cB := (b0.cell 1).trans (b := some (Value.slice A na ca)) rfl
  have cC := (b1.cell 0).trans (b := some (Value.bool y)) rfl
  have cD := (b1.cell 1).trans (b := some (Value.slice B nb cb)) rfl
  go_wp2
  go_ret
  exact ⟨rfl, ch24⟩

set_option maxRecDepth 100000 in
set_option maxHeartbeats 2000000 in
theorem wrong_f {x y : Bool} {la lb : List Nat} {A B : Option Addr} {na nb ca cb : Nat} {w : World} (sa : Wh w (.agg #[.bool x, .slice A na ca]) x la) (sb : Wh w (.agg #[.bool y, .slice B nb cb]) y lb) (hx : validB x la = false) (lA : na ≤ 70368744177664) (lB : nb ≤ 70368744177664) (hla : na ≤ 2000) (hlb : nb ≤ 2000) :
    Calls Try.prog 11 #[.agg #[.bool x, .slice A na ca], .agg #[.bool y, .slice B nb cb]] w fun e w' => e = .returned (.bool true) ∧ Below w.heap.size w w' := by
  have b0 : Blk ((w.alloc (.cells #[.bool x, .slice A na ca] 26)).alloc (.cells #[.bool y, .slice B nb cb] 26)) w.heap.size 26 #[.bool x, .slice A na ca] := (Blk.new w _ _).alloc _
  have b1 : Blk ((w.alloc (.cells #[.bool x, .slice A na ca] 26)).alloc (.cells #[.bool y, .slice B nb cb] 26)) (w.heap.size + 1) 26 #[.bool y, .slice B nb cb] := by
    have := (Blk.new (w.alloc (.cells #[.bool x, .slice A na ca] 26)) 26 #[.bool y, .slice B nb cb])
    rwa [World.size_alloc] at this
  have bw : Below w.heap.size w ((w.alloc (.cells #[.bool x, .slice A na ca] 26)).alloc (.cells #[.bool y, .slice B nb cb] 26)) := (by repeat (first | exact Below.refl _ _ | assumption | refine Below.alloc ?_ (by first | (simp; done) | (simp; omega) | omega) _ | refine Below.setCell ?_ (by first | (simp; done) | (simp; omega) | omega) _ | refine Below.drew ?_))
  replace sa := sa.below bw
  replace sb := sb.below bw
  have hv : (validB x la && validB y lb) = false := by rw [hx]; rfl
  go_enter Try.func11, Try.ntmps11
  go_wp2_with fail
  refine (awake_any _).mono ?_
  rintro e u1 ⟨rfl, hb1⟩
  have ch1 := bw.trans (hb1.mono bw.size)
  replace b0 := b0.below hb1 b0.lt
  replace b1 := b1.below hb1 b1.lt
  replace sa := sa.below hb1
  replace sb := sb.below hb1
  have cA := (b0.cell 0).trans (b := some (Value.bool x)) rfl
  have cB := (b0.cell 1).trans (b := some (Value.slice A na ca)) rfl
  have cC := (b1.cell 0).trans (b := some (Value.bool y)) rfl
  have cD := (b1.cell 1).trans (b := some (Value.slice B nb cb)) rfl
  go_wp2_with fail
  refine (valid_wh sa).mono ?_
  rintro e u2 ⟨rfl, hb2⟩
  have ch2 := ch1.trans (hb2.mono ch1.size)
  replace b0 := b0.below hb2 b0.lt
  replace b1 := b1.below hb2 b1.lt
  replace sa := sa.below hb2
  replace sb := sb.below hb2
  rw [hx]
  clear cA cB cC cD
  have cA := (b0.cell 0).trans (b := some (Value.bool x)) rfl
  have cB := (b0.cell 1).trans (b := some (Value.slice A na ca)) rfl
  have cC := (b1.cell 0).trans (b := some (Value.bool y)) rfl
  have cD := (b1.cell 1).trans (b := some (Value.slice B nb cb)) rfl
  go_wp2_with fail
  refine (add_inv sa sb hv).mono ?_
  rintro e v0 ⟨q0, rfl, z0, hc0⟩
  have ch3 := ch2.trans (hc0.mono ch2.size)
  replace b0 := b0.below hc0 b0.lt
  replace b1 := b1.below hc0 b1.lt
  replace sa := sa.below hc0
  replace sb := sb.below hc0
  clear cA cB cC cD
  obtain ⟨n0, A0, c0, Hn0, rfl⟩ := zero_cells z0
  have al0 : Below v0.heap.size v0 (v0.alloc (.cells #[.bool false, .slice A0 n0 c0] 26)) := (Below.refl _ _).alloc (Nat.le_refl _) _
  have N0 : Held (v0.alloc (.cells #[.bool false, .slice A0 n0 c0] 26)) v0.heap.size 0 := Held.new (W := v0) (z := 0) z0
  have ch4 := ch3.trans (al0.mono ch3.size)
  replace b0 := b0.below al0 b0.lt
  replace b1 := b1.below al0 b1.lt
  replace sa := sa.below al0
  replace sb := sb.below al0
  clear z0
  have cA := (b0.cell 0).trans (b := some (Value.bool x)) rfl
  have cB := (b0.cell 1).trans (b := some (Value.slice A na ca)) rfl
  have cC := (b1.cell 0).trans (b := some (Value.bool y)) rfl
  have cD := (b1.cell 1).trans (b := some (Value.slice B nb cb)) rfl
  go_wp2_with fail
  refine (sub_inv sa sb hv).mono ?_
  rintro e v1 ⟨q1, rfl, z1, hc1⟩
  have ch5 := ch4.trans (hc1.mono ch4.size)
  replace b0 := b0.below hc1 b0.lt
  replace b1 := b1.below hc1 b1.lt
  replace sa := sa.below hc1
  replace sb := sb.below hc1
  replace N0 := N0.below hc1
  clear cA cB cC cD
  obtain ⟨n1, A1, c1, Hn1, rfl⟩ := zero_cells z1
  have al1 : Below v1.heap.size v1 (v1.alloc (.cells #[.bool false, .slice A1 n1 c1] 26)) := (Below.refl _ _).alloc (Nat.le_refl _) _
  have N1 : Held (v1.alloc (.cells #[.bool false, .slice A1 n1 c1] 26)) v1.heap.size 0 := Held.new (W := v1) (z := 0) z1
  have ch6 := ch5.trans (al1.mono ch5.size)
  replace b0 := b0.below al1 b0.lt
  replace b1 := b1.below al1 b1.lt
  replace sa := sa.below al1
  replace sb := sb.below al1
  replace N0 := N0.below al1
  clear z1
  have cA := (b0.cell 0).trans (b := some (Value.bool x)) rfl
  have cB := (b0.cell 1).trans (b := some (Value.slice A na ca)) rfl
  have cC := (b1.cell 0).trans (b := some (Value.bool y)) rfl
  have cD := (b1.cell 1).trans (b := some (Value.slice B nb cb)) rfl
  go_wp2_with fail
  refine (mul_inv sa sb hv).mono ?_
  rintro e v2 ⟨q2, rfl, z2, hc2⟩
  have ch7 := ch6.trans (hc2.mono ch6.size)
  replace b0 := b0.below hc2 b0.lt
  replace b1 := b1.below hc2 b1.lt
  replace sa := sa.below hc2
  replace sb := sb.below hc2
  replace N0 := N0.below hc2
  replace N1 := N1.below hc2
  clear cA cB cC cD
  obtain ⟨n2, A2, c2, Hn2, rfl⟩ := zero_cells z2
  have al2 : Below v2.heap.size v2 (v2.alloc (.cells #[.bool false, .slice A2 n2 c2] 26)) := (Below.refl _ _).alloc (Nat.le_refl _) _
  have N2 : Held (v2.alloc (.cells #[.bool false, .slice A2 n2 c2] 26)) v2.heap.size 0 := Held.new (W := v2) (z := 0) z2
  have ch8 := ch7.trans (al2.mono ch7.size)
  replace b0 := b0.below al2 b0.lt
  replace b1 := b1.below al2 b1.lt
  replace sa := sa.below al2
  replace sb := sb.below al2
  replace N0 := N0.below al2
  replace N1 := N1.below al2
  clear z2
  have cA := (b0.cell 0).trans (b := some (Value.bool x)) rfl
  have cB := (b0.cell 1).trans (b := some (Value.slice A na ca)) rfl
  have cC := (b1.cell 0).trans (b := some (Value.bool y)) rfl
  have cD := (b1.cell 1).trans (b := some (Value.slice B nb cb)) rfl
  go_wp2_with fail
  refine (divmod_inv sa sb hv).mono ?_
  rintro e v3 ⟨q3, r3, rfl, z3, x3, hc3⟩
  have ch9 := ch8.trans (hc3.mono ch8.size)
  replace b0 := b0.below hc3 b0.lt
  replace b1 := b1.below hc3 b1.lt
  replace sa := sa.below hc3
  replace sb := sb.below hc3
  replace N0 := N0.below hc3
  replace N1 := N1.below hc3
  replace N2 := N2.below hc3
  clear cA cB cC cD
  obtain ⟨n3, A3, c3, Hn3, rfl⟩ := zero_cells z3
  obtain ⟨m3, B3, d3, Hm3, rfl⟩ := zero_cells x3
  have al3 : Below v3.heap.size v3 (v3.alloc (.cells #[.bool false, .slice A3 n3 c3] 26)) := (Below.refl _ _).alloc (Nat.le_refl _) _
  have N3 : Held (v3.alloc (.cells #[.bool false, .slice A3 n3 c3] 26)) v3.heap.size 0 := Held.new (W := v3) (z := 0) z3
  have ch10 := ch9.trans (al3.mono ch9.size)
  replace b0 := b0.below al3 b0.lt
  replace b1 := b1.below al3 b1.lt
  replace sa := sa.below al3
  replace sb := sb.below al3
  replace N0 := N0.below al3
  replace N1 := N1.below al3
  replace N2 := N2.below al3
  have am3 : Below (v3.alloc (.cells #[.bool false, .slice A3 n3 c3] 26)).heap.size (v3.alloc (.cells #[.bool false, .slice A3 n3 c3] 26)) ((v3.alloc (.cells #[.bool false, .slice A3 n3 c3] 26)).alloc (.cells #[.bool false, .slice B3 m3 d3] 26)) := (Below.refl _ _).alloc (Nat.le_refl _) _
  have M3 : Held ((v3.alloc (.cells #[.bool false, .slice A3 n3 c3] 26)).alloc (.cells #[.bool false, .slice B3 m3 d3] 26)) (v3.heap.size + 1) 0 := by
    have hh : Held ((v3.alloc (.cells #[.bool false, .slice A3 n3 c3] 26)).alloc (.cells #[.bool false, .slice B3 m3 d3] 26)) (v3.alloc (.cells #[.bool false, .slice A3 n3 c3] 26)).heap.size 0 := Held.new (W := (v3.alloc (.cells #[.bool false, .slice A3 n3 c3] 26))) (z := 0) (x3.below al3)
    rwa [World.size_alloc] at hh
  have ch11 := ch10.trans (am3.mono ch10.size)
  replace b0 := b0.below am3 b0.lt
  replace b1 := b1.below am3 b1.lt
  replace sa := sa.below am3
  replace sb := sb.below am3
  replace N0 := N0.below am3
  replace N1 := N1.below am3
  replace N2 := N2.below am3
  replace N3 := N3.below am3
  clear z3 x3
  have cA := (b0.cell 0).trans (b := some (Value.bool x)) rfl
  have cB := (b0.cell 1).trans (b := some (Value.slice A na ca)) rfl
  have cC := (b1.cell 0).trans (b := some (Value.bool y)) rfl
  have cD := (b1.cell 1).trans (b := some (Value.slice B nb cb)) rfl
  go_wp2_with fail
  refine (gcd_inv sa sb hv).mono ?_
  rintro e v4 ⟨q4, rfl, z4, hc4⟩
  have ch12 := ch11.trans (hc4.mono ch11.size)
  replace b0 := b0.below hc4 b0.lt
  replace b1 := b1.below hc4 b1.lt
  replace sa := sa.below hc4
  replace sb := sb.below hc4
  replace N0 := N0.below hc4
  replace N1 := N1.below hc4
  replace N2 := N2.below hc4
  replace N3 := N3.below hc4
  replace M3 := M3.below hc4
  clear cA cB cC cD
  obtain ⟨n4, A4, c4, Hn4, rfl⟩ := zero_cells z4
  have al4 : Below v4.heap.size v4 (v4.alloc (.cells #[.bool false, .slice A4 n4 c4] 26)) := (Below.refl _ _).alloc (Nat.le_refl _) _
  have N4 : Held (v4.alloc (.cells #[.bool false, .slice A4 n4 c4] 26)) v4.heap.size 0 := Held.new (W := v4) (z := 0) z4
  have ch13 := ch12.trans (al4.mono ch12.size)
  replace b0 := b0.below al4 b0.lt
  replace b1 := b1.below al4 b1.lt
  replace sa := sa.below al4
  replace sb := sb.below al4
  replace N0 := N0.below al4
  replace N1 := N1.below al4
  replace N2 := N2.below al4
  replace N3 := N3.below al4
  replace M3 := M3.below al4
  clear z4
  have ao : Below (v4.alloc (.cells #[.bool false, .slice A4 n4 c4] 26)).heap.size (v4.alloc (.cells #[.bool false, .slice A4 n4 c4] 26)) ((v4.alloc (.cells #[.bool false, .slice A4 n4 c4] 26)).alloc (.cells #[.bool false, .slice none 0 0] 26)) := (Below.refl _ _).alloc (Nat.le_refl _) _
  have O : Held ((v4.alloc (.cells #[.bool false, .slice A4 n4 c4] 26)).alloc (.cells #[.bool false, .slice none 0 0] 26)) (v4.heap.size + 1) 0 := by
    have hh : Held ((v4.alloc (.cells #[.bool false, .slice A4 n4 c4] 26)).alloc (.cells #[.bool false, .slice none 0 0] 26)) (v4.alloc (.cells #[.bool false, .slice A4 n4 c4] 26)).heap.size 0 := Held.new (W := (v4.alloc (.cells #[.bool false, .slice A4 n4 c4] 26))) (z := 0) (whz_zero _)
    rwa [World.size_alloc] at hh
  have ch14 := ch13.trans (ao.mono ch13.size)
  replace b0 := b0.below ao b0.lt
  replace b1 := b1.below ao b1.lt
  replace sa := sa.below ao
  replace sb := sb.below ao
  replace N0 := N0.below ao
  replace N1 := N1.below ao
  replace N2 := N2.below ao
  replace N3 := N3.below ao
  replace M3 := M3.below ao
  replace N4 := N4.below ao
  have cA := (b0.cell 0).trans (b := some (Value.bool x)) rfl
  have cB := (b0.cell 1).trans (b := some (Value.slice A na ca)) rfl
  have cC := (b1.cell 0).trans (b := some (Value.bool y)) rfl
  have cD := (b1.cell 1).trans (b := some (Value.slice B nb cb)) rfl
  go_wp2_with fail
  refine (cmp_inv sa sb hv).mono ?_
  rintro e u5 ⟨rfl, hb5⟩
  have ch15 := ch14.trans (hb5.mono ch14.size)
  replace b0 := b0.below hb5 b0.lt
  replace b1 := b1.below hb5 b1.lt
  replace sa := sa.below hb5
  replace sb := sb.below hb5
  replace N0 := N0.below hb5
  replace N1 := N1.below hb5
  replace N2 := N2.below hb5
  replace N3 := N3.below hb5
  replace M3 := M3.below hb5
  replace N4 := N4.below hb5
  replace O := O.below hb5
  clear cA cB cC cD
  have cA := (b0.cell 0).trans (b := some (Value.bool x)) rfl
  have cB := (b0.cell 1).trans (b := some (Value.slice A na ca)) rfl
  have cC := (b1.cell 0).trans (b := some (Value.bool y)) rfl
  have cD := (b1.cell 1).trans (b := some (Value.slice B nb cb)) rfl
  go_wp2_with fail
  refine (cmp_inv sb sa (by rw [Bool.and_comm]; exact hv)).mono ?_
  rintro e u6 ⟨rfl, hb6⟩
  have ch16 := ch15.trans (hb6.mono ch15.size)
  replace b0 := b0.below hb6 b0.lt
  replace b1 := b1.below hb6 b1.lt
  replace sa := sa.below hb6
  replace sb := sb.below hb6
  replace N0 := N0.below hb6
  replace N1 := N1.below hb6
  replace N2 := N2.below hb6
  replace N3 := N3.below hb6
  replace M3 := M3.below hb6
  replace N4 := N4.below hb6
  replace O := O.below hb6
  clear cA cB cC cD
  obtain ⟨P0, p0, q_0, bk0, zz0⟩ := N0
  obtain ⟨PO0, po0, qo0, bo0, zo0⟩ := O
  have O : Held _ (v4.heap.size + 1) 0 := ⟨PO0, po0, qo0, bo0, zo0⟩
  have eA0 := (bk0.cell 0).trans (b := some (Value.bool false)) rfl
  have eB0 := (bk0.cell 1).trans (b := some (Value.slice P0 p0 q_0)) rfl
  have eC0 := (bo0.cell 0).trans (b := some (Value.bool false)) rfl
  have eD0 := (bo0.cell 1).trans (b := some (Value.slice PO0 po0 qo0)) rfl
  go_wp2_with fail
  refine (equal_wh (whz_wh zz0) (whz_wh zo0)).mono ?_
  rintro e t0 ⟨rfl, hi0⟩
  rw [show (validB false [] && validB false [] && decide (false = false ∧ ([] : List Nat) = [])) = true from rfl]
  have ch17 := ch16.trans (hi0.mono ch16.size)
  replace b0 := b0.below hi0 b0.lt
  replace b1 := b1.below hi0 b1.lt
  replace sa := sa.below hi0
  replace sb := sb.below hi0
  replace N1 := N1.below hi0
  replace N2 := N2.below hi0
  replace N3 := N3.below hi0
  replace M3 := M3.below hi0
  replace N4 := N4.below hi0
  replace O := O.below hi0
  clear eA0 eB0 eC0 eD0 bk0 bo0 zz0 zo0
  obtain ⟨P1, p1, q_1, bk1, zz1⟩ := N1
  obtain ⟨PO1, po1, qo1, bo1, zo1⟩ := O
  have O : Held _ (v4.heap.size + 1) 0 := ⟨PO1, po1, qo1, bo1, zo1⟩
  have eA1 := (bk1.cell 0).trans (b := some (Value.bool false)) rfl
  have eB1 := (bk1.cell 1).trans (b := some (Value.slice P1 p1 q_1)) rfl
  have eC1 := (bo1.cell 0).trans (b := some (Value.bool false)) rfl
  have eD1 := (bo1.cell 1).trans (b := some (Value.slice PO1 po1 qo1)) rfl
  go_wp2_with fail
  refine (equal_wh (whz_wh zz1) (whz_wh zo1)).mono ?_
  rintro e t1 ⟨rfl, hi1⟩
  rw [show (validB false [] && validB false [] && decide (false = false ∧ ([] : List Nat) = [])) = true from rfl]
  have ch18 := ch17.trans (hi1.mono ch17.size)
  replace b0 := b0.below hi1 b0.lt
  replace b1 := b1.below hi1 b1.lt
  replace sa := sa.below hi1
  replace sb := sb.below hi1
  replace N2 := N2.below hi1
  replace N3 := N3.below hi1
  replace M3 := M3.below hi1
  replace N4 := N4.below hi1
  replace O := O.below hi1
  clear eA1 eB1 eC1 eD1 bk1 bo1 zz1 zo1
  obtain ⟨P2, p2, q_2, bk2, zz2⟩ := N2
  obtain ⟨PO2, po2, qo2, bo2, zo2⟩ := O
  have O : Held _ (v4.heap.size + 1) 0 := ⟨PO2, po2, qo2, bo2, zo2⟩
  have eA2 := (bk2.cell 0).trans (b := some (Value.bool false)) rfl
  have eB2 := (bk2.cell 1).trans (b := some (Value.slice P2 p2 q_2)) rfl
  have eC2 := (bo2.cell 0).trans (b := some (Value.bool false)) rfl
  have eD2 := (bo2.cell 1).trans (b := some (Value.slice PO2 po2 qo2)) rfl
  go_wp2_with fail
  refine (equal_wh (whz_wh zz2) (whz_wh zo2)).mono ?_
  rintro e t2 ⟨rfl, hi2⟩
  rw [show (validB false [] && validB false [] && decide (false = false ∧ ([] : List Nat) = [])) = true from rfl]
  have ch19 := ch18.trans (hi2.mono ch18.size)
  replace b0 := b0.below hi2 b0.lt
  replace b1 := b1.below hi2 b1.lt
  replace sa := sa.below hi2
  replace sb := sb.below hi2
  replace N3 := N3.below hi2
  replace M3 := M3.below hi2
  replace N4 := N4.below hi2
  replace O := O.below hi2
  clear eA2 eB2 eC2 eD2 bk2 bo2 zz2 zo2
  obtain ⟨P3, p3, q_3, bk3, zz3⟩ := N3
  obtain ⟨PO3, po3, qo3, bo3, zo3⟩ := O
  have O : Held _ (v4.heap.size + 1) 0 := ⟨PO3, po3, qo3, bo3, zo3⟩
  have eA3 := (bk3.cell 0).trans (b := some (Value.bool false)) rfl
  have eB3 := (bk3.cell 1).trans (b := some (Value.slice P3 p3 q_3)) rfl
  have eC3 := (bo3.cell 0).trans (b := some (Value.bool false)) rfl
  have eD3 := (bo3.cell 1).trans (b := some (Value.slice PO3 po3 qo3)) rfl
  go_wp2_with fail
  refine (equal_wh (whz_wh zz3) (whz_wh zo3)).mono ?_
  rintro e t3 ⟨rfl, hi3⟩
  rw [show (validB false [] && validB false [] && decide (false = false ∧ ([] : List Nat) = [])) = true from rfl]
  have ch20 := ch19.trans (hi3.mono ch19.size)
  replace b0 := b0.below hi3 b0.lt
  replace b1 := b1.below hi3 b1.lt
  replace sa := sa.below hi3
  replace sb := sb.below hi3
  replace M3 := M3.below hi3
  replace N4 := N4.below hi3
  replace O := O.below hi3
  clear eA3 eB3 eC3 eD3 bk3 bo3 zz3 zo3
  obtain ⟨P4, p4, q_4, bk4, zz4⟩ := M3
  obtain ⟨PO4, po4, qo4, bo4, zo4⟩ := O
  have O : Held _ (v4.heap.size + 1) 0 := ⟨PO4, po4, qo4, bo4, zo4⟩
  have eA4 := (bk4.cell 0).trans (b := some (Value.bool false)) rfl
  have eB4 := (bk4.cell 1).trans (b := some (Value.slice P4 p4 q_4)) rfl
  have eC4 := (bo4.cell 0).trans (b := some (Value.bool false)) rfl
  have eD4 := (bo4.cell 1).trans (b := some (Value.slice PO4 po4 qo4)) rfl
  go_wp2_with fail
  refine (equal_wh (whz_wh zz4) (whz_wh zo4)).mono ?_
  rintro e t4 ⟨rfl, hi4⟩
  rw [show (validB false [] && validB false [] && decide (false = false ∧ ([] : List Nat) = [])) = true from rfl]
  have ch21 := ch20.trans (hi4.mono ch20.size)
  replace b0 := b0.below hi4 b0.lt
  replace b1 := b1.below hi4 b1.lt
  replace sa := sa.below hi4
  replace sb := sb.below hi4
  replace N4 := N4.below hi4
  replace O := O.below hi4
  clear eA4 eB4 eC4 eD4 bk4 bo4 zz4 zo4
  obtain ⟨P5, p5, q_5, bk5, zz5⟩ := N4
  obtain ⟨PO5, po5, qo5, bo5, zo5⟩ := O
  have O : Held _ (v4.heap.size + 1) 0 := ⟨PO5, po5, qo5, bo5, zo5⟩
  have eA5 := (bk5.cell 0).trans (b := some (Value.bool false)) rfl
  have eB5 := (bk5.cell 1).trans (b := some (Value.slice P5 p5 q_5)) rfl
  have eC5 := (bo5.cell 0).trans (b := some (Value.bool false)) rfl
  have eD5 := (bo5.cell 1).trans (b := some (Value.slice PO5 po5 qo5)) rfl
  go_wp2_with fail
  refine (equal_wh (whz_wh zz5) (whz_wh zo5)).mono ?_
  rintro e t5 ⟨rfl, hi5⟩
  rw [show (validB false [] && validB false [] && decide (false = false ∧ ([] : List Nat) = [])) = true from rfl]
  have ch22 := ch21.trans (hi5.mono ch21.size)
  replace b0 := b0.below hi5 b0.lt
  replace b1 := b1.below hi5 b1.lt
  replace sa := sa.below hi5
  replace sb := sb.below hi5
  replace O := O.below hi5
  clear eA5 eB5 eC5 eD5 bk5 bo5 zz5 zo5
  have cA := (b0.cell 0).trans (b := some (Value.bool x)) rfl
  have cB := (b0.cell 1).trans (b := some (Value.slice A na ca)) rfl
  have cC := (b1.cell 0).trans (b := some (Value.bool y)) rfl
  have cD := (b1.cell 1).trans (b := some (Value.slice B nb cb)) rfl
  go_wp2_with fail
  refine (valid_wh sa).mono ?_
  rintro e u8 ⟨rfl, hb8⟩
  have ch23 := ch22.trans (hb8.mono ch22.size)
  replace b0 := b0.below hb8 b0.lt
  replace b1 := b1.below hb8 b1.lt
  replace sa := sa.below hb8
  replace sb := sb.below hb8
  replace O := O.below hb8
  rw [hx]
  clear cA cB cC cD
  have cA := (b0.cell 0).trans (b := some (Value.bool x)) rfl
  have cB := (b0.cell 1).trans (b := some (Value.slice A na ca)) rfl
  have cC := (b1.cell 0).trans (b := some (Value.bool y)) rfl
  have cD := (b1.cell 1).trans (b := some (Value.slice B nb cb)) rfl
  go_wp2_with fail
  refine (int_inv sa hx).mono ?_
  rintro e u9 ⟨rfl, hb9⟩
  have ch24 := ch23.trans (hb9.mono ch23.size)
  replace b0 := b0.below hb9 b0.lt
  replace b1 := b1.below hb9 b1.lt
  replace sa := sa.below hb9
  replace sb := sb.below hb9
  replace O := O.below hb9
  clear cA cB cC cD
  have cA := (b0.cell 0).trans (b := some (Value.bool x)) rfl
  have cB := (b0.cell 1).trans (b := some (Value.slice A na ca)) rfl
  have cC := (b1.cell 0).trans (b := some (Value.bool y)) rfl
  have cD := (b1.cell 1).trans (b := some (Value.slice B nb cb)) rfl
  go_wp2_with fail
  refine (text_inv sa hx).mono ?_
  rintro e uA ⟨rfl, hbA⟩
  have ch25 := ch24.trans (hbA.mono ch24.size)
  replace b0 := b0.below hbA b0.lt
  replace b1 := b1.below hbA b1.lt
  replace sa := sa.below hbA
  replace sb := sb.below hbA
  replace O := O.below hbA
  clear cA cB cC cD
  have cA := (b0.cell 0).trans (b := some (Value.bool x)) rfl
  have cB := (b0.cell 1).trans (b := some (Value.slice A na ca)) rfl
  have cC := (b1.cell 0).trans (b := some (Value.bool y)) rfl
  have cD := (b1.cell 1).trans (b := some (Value.slice B nb cb)) rfl
  go_wp2
  go_ret
  exact ⟨rfl, ch25⟩

theorem wrong_any {x y : Bool} {la lb : List Nat} {w : World} {va vb : Value} (sa : Wh w va x la) (sb : Wh w vb y lb) :
    Calls Try.prog 11 #[va, vb] w fun e w' => e = .returned (.bool true) ∧ Below w.heap.size w w' := by
  obtain ⟨A, ca, rfl, ha⟩ := sa
  obtain ⟨B, cb, rfl, hb⟩ := sb
  have sa : Wh w (.agg #[.bool x, .slice A la.length ca]) x la := ⟨A, ca, rfl, ha⟩
  have sb : Wh w (.agg #[.bool y, .slice B lb.length cb]) y lb := ⟨B, cb, rfl, hb⟩
  cases hx : validB x la with
  | true =>
    cases hy : validB y lb with
    | true => exact wrong_tt sa sb hx hy ha.2.1 hb.2.1
    | false =>
      by_cases hl : 2000 < la.length ∨ 2000 < lb.length
      · exact wrong_t_long sa sb hx hy ha.2.1 hb.2.1 hl
      · exact wrong_t sa sb hx hy ha.2.1 hb.2.1 (by omega) (by omega)
  | false =>
    by_cases hl : 2000 < la.length ∨ 2000 < lb.length
    · exact wrong_f_long sa sb hx ha.2.1 hb.2.1 hl
    · exact wrong_f sa sb hx ha.2.1 hb.2.1 (by omega) (by omega)
end Go.Proofs.Ytgnidjhfiagfnaa
