/- Equality and order of numbers. Conditions: they are in memory. -/
import Derived.Test.YtgnidjhfiagfnaaWs
namespace Go.Proofs.Ytgnidjhfiagfnaa
open Go.RowKit

set_option maxRecDepth 100000 in
set_option maxHeartbeats 400000 in
theorem equal_n1 (x y : Bool) (la lb : List Nat) (A B : Option Addr) (na nb ca cb : Nat) (w : World) (hsa : Sl w (.slice A na ca) la) (hna : Hid (la.length = na)) (hsb : Sl w (.slice B nb cb) lb) (hnb : Hid (lb.length = nb)) (hx : validB x la = false) :
    Calls Try.prog 30 #[.agg #[.bool x, .slice A na ca], .agg #[.bool y, .slice B nb cb]] w fun e w' => e = .returned (.bool (false)) ∧ Below w.heap.size w w' := by
  obtain ⟨W0, hW0⟩ : ∃ W0, (w.alloc (.cells #[.bool x, .slice A na ca] 26)).alloc (.cells #[.bool y, .slice B nb cb] 26) = W0 := ⟨_, rfl⟩
  have b0 : Blk W0 w.heap.size 26 #[.bool x, .slice A na ca] := by rw [← hW0]; exact (Blk.new w _ _).alloc _
  have b1 : Blk W0 (w.heap.size + 1) 26 #[.bool y, .slice B nb cb] := by
    rw [← hW0]
    have := Blk.new (w.alloc (.cells #[.bool x, .slice A na ca] 26)) 26 #[.bool y, .slice B nb cb]
    rwa [World.size_alloc] at this
  have bw : Below w.heap.size w W0 := by rw [← hW0]; exact (by repeat (first | exact Below.refl _ _ | assumption | refine Below.alloc ?_ (by first | (simp; done) | (simp; omega) | omega) _ | refine Below.setCell ?_ (by first | (simp; done) | (simp; omega) | omega) _ | refine Below.drew ?_))
  have HW : Hid ((w.alloc (.cells #[.bool x, .slice A na ca] 26)).alloc (.cells #[.bool y, .slice B nb cb] 26) = W0) := hW0
  clear hW0
  have wa : Wh W0 (.agg #[.bool x, .slice A na ca]) x la := ⟨A, ca, by rw [hna.out], by rw [hna.out]; exact hsa.below bw⟩
  have wb : Wh W0 (.agg #[.bool y, .slice B nb cb]) y lb := ⟨B, cb, by rw [hnb.out], by rw [hnb.out]; exact hsb.below bw⟩
  have l0 := b0.lt
  have l1 := b1.lt
  have H1 : Hid (Calls Try.prog 20 #[.agg #[.bool x, .slice A na ca]] W0 fun e w' => e = .returned (.bool false) ∧ Below W0.heap.size W0 w') := by rw [← hx]; exact valid_wh wa
  clear hx wa wb hsa hsb
  go_enter Try.func30, Try.ntmps30
  go_wp2_with (first | (rw [HW.out]; go_at_call 20; refine H1.out.mono ?_; clear H1; rintro e w1 ⟨rfl, hb1⟩; have e0 := b0.below hb1 l0; have e1 := b1.below hb1 l1; have g0 := (e0.cell 0).trans (b := some (Value.bool x)) rfl; have g1 := (e0.cell 1).trans (b := some (Value.slice A na ca)) rfl; have g2 := (e1.cell 0).trans (b := some (Value.bool y)) rfl; have g3 := (e1.cell 1).trans (b := some (Value.slice B nb cb)) rfl; have l2 := e0.lt; have l3 := e1.lt))
  all_goals
    go_ret
    exact ⟨rfl, bw.trans (hb1.mono bw.size)⟩

set_option maxRecDepth 100000 in
set_option maxHeartbeats 400000 in
theorem equal_n2 (x y : Bool) (la lb : List Nat) (A B : Option Addr) (na nb ca cb : Nat) (w : World) (hsa : Sl w (.slice A na ca) la) (hna : Hid (la.length = na)) (hsb : Sl w (.slice B nb cb) lb) (hnb : Hid (lb.length = nb)) (hx : validB x la = true) (hy : validB y lb = false) :
    Calls Try.prog 30 #[.agg #[.bool x, .slice A na ca], .agg #[.bool y, .slice B nb cb]] w fun e w' => e = .returned (.bool (false)) ∧ Below w.heap.size w w' := by
  obtain ⟨W0, hW0⟩ : ∃ W0, (w.alloc (.cells #[.bool x, .slice A na ca] 26)).alloc (.cells #[.bool y, .slice B nb cb] 26) = W0 := ⟨_, rfl⟩
  have b0 : Blk W0 w.heap.size 26 #[.bool x, .slice A na ca] := by rw [← hW0]; exact (Blk.new w _ _).alloc _
  have b1 : Blk W0 (w.heap.size + 1) 26 #[.bool y, .slice B nb cb] := by
    rw [← hW0]
    have := Blk.new (w.alloc (.cells #[.bool x, .slice A na ca] 26)) 26 #[.bool y, .slice B nb cb]
    rwa [World.size_alloc] at this
  have bw : Below w.heap.size w W0 := by rw [← hW0]; exact (by repeat (first | exact Below.refl _ _ | assumption | refine Below.alloc ?_ (by first | (simp; done) | (simp; omega) | omega) _ | refine Below.setCell ?_ (by first | (simp; done) | (simp; omega) | omega) _ | refine Below.drew ?_))
  have HW : Hid ((w.alloc (.cells #[.bool x, .slice A na ca] 26)).alloc (.cells #[.bool y, .slice B nb cb] 26) = W0) := hW0
  clear hW0
  have wa : Wh W0 (.agg #[.bool x, .slice A na ca]) x la := ⟨A, ca, by rw [hna.out], by rw [hna.out]; exact hsa.below bw⟩
  have wb : Wh W0 (.agg #[.bool y, .slice B nb cb]) y lb := ⟨B, cb, by rw [hnb.out], by rw [hnb.out]; exact hsb.below bw⟩
  have l0 := b0.lt
  have l1 := b1.lt
  have H1 : Hid (Calls Try.prog 20 #[.agg #[.bool x, .slice A na ca]] W0 fun e w' => e = .returned (.bool true) ∧ Below W0.heap.size W0 w') := by rw [← hx]; exact valid_wh wa
  have H2 : Hid (∀ w1, Below W0.heap.size W0 w1 → Calls Try.prog 20 #[.agg #[.bool y, .slice B nb cb]] w1 fun e w' => e = .returned (.bool false) ∧ Below w1.heap.size w1 w') := fun w1 hb => by rw [← hy]; exact valid_wh (wb.below hb)
  clear hx hy wa wb hsa hsb
  go_enter Try.func30, Try.ntmps30
  go_wp2_with (first | (rw [HW.out]; go_at_call 20; refine H1.out.mono ?_; clear H1; rintro e w1 ⟨rfl, hb1⟩; have e0 := b0.below hb1 l0; have e1 := b1.below hb1 l1; have g0 := (e0.cell 0).trans (b := some (Value.bool x)) rfl; have g1 := (e0.cell 1).trans (b := some (Value.slice A na ca)) rfl; have g2 := (e1.cell 0).trans (b := some (Value.bool y)) rfl; have g3 := (e1.cell 1).trans (b := some (Value.slice B nb cb)) rfl; have l2 := e0.lt; have l3 := e1.lt) | (go_at_call 20; refine (H2.out _ hb1).mono ?_; clear H2; rintro e w2 ⟨rfl, hb2⟩; have i0 := e0.below hb2 l2; have i1 := e1.below hb2 l3; have j0 := (i0.cell 0).trans (b := some (Value.bool x)) rfl; have j1 := (i0.cell 1).trans (b := some (Value.slice A na ca)) rfl; have j2 := (i1.cell 0).trans (b := some (Value.bool y)) rfl; have j3 := (i1.cell 1).trans (b := some (Value.slice B nb cb)) rfl; have l4 := i0.lt; have l5 := i1.lt))
  all_goals
    go_ret
    exact ⟨rfl, (bw.trans (hb1.mono bw.size)).trans (hb2.mono (Nat.le_trans bw.size hb1.size))⟩

set_option maxRecDepth 100000 in
set_option maxHeartbeats 400000 in
theorem equal_yy (x y : Bool) (la lb : List Nat) (A B : Option Addr) (na nb ca cb : Nat) (w : World) (hsa : Sl w (.slice A na ca) la) (hna : Hid (la.length = na)) (hsb : Sl w (.slice B nb cb) lb) (hnb : Hid (lb.length = nb)) (hx : validB x la = true) (hy : validB y lb = true) :
    Calls Try.prog 30 #[.agg #[.bool x, .slice A na ca], .agg #[.bool y, .slice B nb cb]] w fun e w' => e = .returned (.bool (decide (x = y ∧ la = lb))) ∧ Below w.heap.size w w' := by
  obtain ⟨W0, hW0⟩ : ∃ W0, (w.alloc (.cells #[.bool x, .slice A na ca] 26)).alloc (.cells #[.bool y, .slice B nb cb] 26) = W0 := ⟨_, rfl⟩
  have b0 : Blk W0 w.heap.size 26 #[.bool x, .slice A na ca] := by rw [← hW0]; exact (Blk.new w _ _).alloc _
  have b1 : Blk W0 (w.heap.size + 1) 26 #[.bool y, .slice B nb cb] := by
    rw [← hW0]
    have := Blk.new (w.alloc (.cells #[.bool x, .slice A na ca] 26)) 26 #[.bool y, .slice B nb cb]
    rwa [World.size_alloc] at this
  have bw : Below w.heap.size w W0 := by rw [← hW0]; exact (by repeat (first | exact Below.refl _ _ | assumption | refine Below.alloc ?_ (by first | (simp; done) | (simp; omega) | omega) _ | refine Below.setCell ?_ (by first | (simp; done) | (simp; omega) | omega) _ | refine Below.drew ?_))
  have HW : Hid ((w.alloc (.cells #[.bool x, .slice A na ca] 26)).alloc (.cells #[.bool y, .slice B nb cb] 26) = W0) := hW0
  clear hW0
  have wa : Wh W0 (.agg #[.bool x, .slice A na ca]) x la := ⟨A, ca, by rw [hna.out], by rw [hna.out]; exact hsa.below bw⟩
  have wb : Wh W0 (.agg #[.bool y, .slice B nb cb]) y lb := ⟨B, cb, by rw [hnb.out], by rw [hnb.out]; exact hsb.below bw⟩
  have l0 := b0.lt
  have l1 := b1.lt
  have H1 : Hid (Calls Try.prog 20 #[.agg #[.bool x, .slice A na ca]] W0 fun e w' => e = .returned (.bool true) ∧ Below W0.heap.size W0 w') := by rw [← hx]; exact valid_wh wa
  have H2 : Hid (∀ w1, Below W0.heap.size W0 w1 → Calls Try.prog 20 #[.agg #[.bool y, .slice B nb cb]] w1 fun e w' => e = .returned (.bool true) ∧ Below w1.heap.size w1 w') := fun w1 hb => by rw [← hy]; exact valid_wh (wb.below hb)
  have H3 : Hid (∀ w1 w2, Below W0.heap.size W0 w1 → Below w1.heap.size w1 w2 → Calls Try.prog 47 #[.agg #[.bool x, .slice A na ca], .agg #[.bool y, .slice B nb cb]] w2 fun e w' => e = .returned (.bool (decide (x = y ∧ la = lb))) ∧ Below w2.heap.size w2 w') := fun w1 w2 hb hc => same_wh ((wa.below hb).below hc) ((wb.below hb).below hc)
  obtain ⟨res, hres⟩ : ∃ res, decide (x = y ∧ la = lb) = res := ⟨_, rfl⟩
  rw [hres] at H3 ⊢
  clear hx hy hres wa wb hsa hsb
  go_enter Try.func30, Try.ntmps30
  go_wp2_with (first | (rw [HW.out]; go_at_call 20; refine H1.out.mono ?_; clear H1; rintro e w1 ⟨rfl, hb1⟩; have e0 := b0.below hb1 l0; have e1 := b1.below hb1 l1; have g0 := (e0.cell 0).trans (b := some (Value.bool x)) rfl; have g1 := (e0.cell 1).trans (b := some (Value.slice A na ca)) rfl; have g2 := (e1.cell 0).trans (b := some (Value.bool y)) rfl; have g3 := (e1.cell 1).trans (b := some (Value.slice B nb cb)) rfl; have l2 := e0.lt; have l3 := e1.lt) | (go_at_call 20; refine (H2.out _ hb1).mono ?_; clear H2; rintro e w2 ⟨rfl, hb2⟩; have i0 := e0.below hb2 l2; have i1 := e1.below hb2 l3; have j0 := (i0.cell 0).trans (b := some (Value.bool x)) rfl; have j1 := (i0.cell 1).trans (b := some (Value.slice A na ca)) rfl; have j2 := (i1.cell 0).trans (b := some (Value.bool y)) rfl; have j3 := (i1.cell 1).trans (b := some (Value.slice B nb cb)) rfl; have l4 := i0.lt; have l5 := i1.lt) | (go_at_call 47; refine (H3.out _ _ hb1 hb2).mono ?_; clear H3; rintro e w3 ⟨rfl, hb3⟩))
  all_goals
    go_ret
    exact ⟨rfl, ((bw.trans (hb1.mono bw.size)).trans (hb2.mono (Nat.le_trans bw.size hb1.size))).trans (hb3.mono (Nat.le_trans (Nat.le_trans bw.size hb1.size) hb2.size))⟩


theorem equal_wh {w : World} {va vb : Value} {x y : Bool} {la lb : List Nat} (hA : Wh w va x la) (hB : Wh w vb y lb) :
    Calls Try.prog 30 #[va, vb] w fun e w' => e = .returned (.bool (validB x la && validB y lb && decide (x = y ∧ la = lb))) ∧ Below w.heap.size w w' := by
  obtain ⟨A, ca, rfl, sa⟩ := hA
  obtain ⟨B, cb, rfl, sb⟩ := hB
  cases hx : validB x la with
  | false => exact equal_n1 x y la lb A B _ _ ca cb w sa rfl sb rfl hx
  | true =>
    cases hy : validB y lb with
    | false => exact equal_n2 x y la lb A B _ _ ca cb w sa rfl sb rfl hx hy
    | true =>
      have := equal_yy x y la lb A B _ _ ca cb w sa rfl sb rfl hx hy
      simpa using this

set_option maxRecDepth 100000 in
set_option maxHeartbeats 2000000 in
theorem is_any (x : Bool) (la : List Nat) (A : Option Addr) (na ca : Nat) (n : Int) (w : World) (hsa : Sl w (.slice A na ca) la) (hna : Hid (la.length = na)) (h0 : -9223372036854775808 ≤ n) (h1 : n ≤ 9223372036854775807) :
    Calls Try.prog 27 #[.agg #[.bool x, .slice A na ca], .int .i64 0, .int .i64 n] w fun e w' => e = .returned (.bool (decide (x = decide (n < 0) ∧ la = digs n.natAbs))) ∧ Below w.heap.size w w' := by
  obtain ⟨W0, hW0⟩ : ∃ W0, w.alloc (.cells #[.bool x, .slice A na ca] 26) = W0 := ⟨_, rfl⟩
  have b0 : Blk W0 w.heap.size 26 #[.bool x, .slice A na ca] := by rw [← hW0]; exact Blk.new w _ _
  have bw : Below w.heap.size w W0 := by rw [← hW0]; exact (by repeat (first | exact Below.refl _ _ | assumption | refine Below.alloc ?_ (by first | (simp; done) | (simp; omega) | omega) _ | refine Below.setCell ?_ (by first | (simp; done) | (simp; omega) | omega) _ | refine Below.drew ?_))
  have HW : Hid (w.alloc (.cells #[.bool x, .slice A na ca] 26) = W0) := hW0
  clear hW0
  have wa : Wh W0 (.agg #[.bool x, .slice A na ca]) x la := ⟨A, ca, by rw [hna.out], by rw [hna.out]; exact hsa.below bw⟩
  have l0 := b0.lt
  have g0 := (b0.cell 0).trans (b := some (Value.bool x)) rfl
  have g1 := (b0.cell 1).trans (b := some (Value.slice A na ca)) rfl
  have H1 : Hid (Calls Try.prog 57 #[.int .i64 n] W0.drew fun e w' => ∃ v, e = .returned v ∧ WhZ w' v n ∧ Below W0.drew.heap.size W0.drew w') := refInt_wh n _ h0 h1
  have H3 : Hid (∀ w1 v, Below W0.heap.size W0 w1 → WhZ w1 v n → Calls Try.prog 47 #[.agg #[.bool x, .slice A na ca], v] w1 fun e w' => e = .returned (.bool (decide (x = decide (n < 0) ∧ la = digs n.natAbs))) ∧ Below w1.heap.size w1 w') := fun w1 v hb hz => same_wh (wa.below hb) hz
  obtain ⟨res, hres⟩ : ∃ res, decide (x = decide (n < 0) ∧ la = digs n.natAbs) = res := ⟨_, rfl⟩
  rw [hres] at H3 ⊢
  clear hres wa hsa
  go_enter Try.func27, Try.ntmps27
  go_wp2
  rw [HW.out]
  go_region_held3 (fun w' => w'.cell? ⟨w.heap.size, 0, none⟩ = some (.bool x) ∧ w'.cell? ⟨w.heap.size, 1, none⟩ = some (.slice A na ca))
    (first | (with_reducible exact ⟨cell_drew g0, cell_drew g1⟩) | (with_reducible exact ⟨ka, kb⟩) | (with_reducible exact ⟨ma, mb⟩))
    (first | (go_at_call 57; refine H1.out.mono ?_; rintro e w1 ⟨v, rfl, hz, hbx⟩; have hb1 := below_of_drew hbx; clear hbx; have ka := (hb1.cell (p := ⟨w.heap.size, 0, none⟩) l0).trans g0; have kb := (hb1.cell (p := ⟨w.heap.size, 1, none⟩) l0).trans g1) | (go_at_call 47; refine (H3.out _ _ hb1 hz).mono ?_; rintro e w2 ⟨rfl, hb2⟩; have ma := (hb2.cell (p := ⟨w.heap.size, 0, none⟩) (Nat.lt_of_lt_of_le l0 hb1.size)).trans ka; have mb := (hb2.cell (p := ⟨w.heap.size, 1, none⟩) (Nat.lt_of_lt_of_le l0 hb1.size)).trans kb))
  go_wp2
  go_ret
  exact ⟨rfl, (bw.trans (hb1.mono bw.size)).trans (hb2.mono (Nat.le_trans bw.size hb1.size))⟩

theorem is_whz {w : World} {v : Value} {z n : Int} (hz : WhZ w v z) (h0 : -9223372036854775808 ≤ n) (h1 : n ≤ 9223372036854775807) (h : z = n) :
    Calls Try.prog 27 #[v, .int .i64 0, .int .i64 n] w fun e w' => e = .returned (.bool true) ∧ Below w.heap.size w w' := by
  subst h
  obtain ⟨A, c, rfl, hs⟩ := hz
  refine (is_any _ _ A _ c z w hs rfl h0 h1).mono ?_
  rintro e w' ⟨rfl, hb⟩
  exact ⟨ret_bool (by simp), hb⟩
end Go.Proofs.Ytgnidjhfiagfnaa
