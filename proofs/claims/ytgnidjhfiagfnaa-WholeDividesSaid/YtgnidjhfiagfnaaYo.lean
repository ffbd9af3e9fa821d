/- WholeDivides' function returns true where the divisor is 0. Conditions: the numbers lie in memory. -/
import Derived.Test.YtgnidjhfiagfnaaYl
namespace Go.Proofs.Ytgnidjhfiagfnaa
open Go.RowKit

theorem nil_z (w : World) : WhZ w (.agg #[.bool false, .slice none 0 0]) 0 := ⟨none, 0, by simp [digs_zero], by
  simp only [Int.natAbs_zero, digs_zero]
  exact ⟨limbs_nil, by simp, none, 0, by simp, by simp, by decide, fun h => (h rfl).elim⟩⟩

set_option maxRecDepth 100000 in
set_option maxHeartbeats 20000000 in
theorem div_zero {x : Bool} {la lb : List Nat} {A B : Option Addr} {na ca cb : Nat} {w : World} (sa : Sl w (.slice A na ca) la) (hna : Hid (la.length = na)) (sb : Sl w (.slice B 0 cb) lb) (hnb : Hid (lb.length = 0)) (hu0 : uB 200 x la = true) (hu1 : uB 200 false lb = true) (hlb : lb = []) :
  Calls Try.prog 5 #[.agg #[.bool x, .slice A na ca], .agg #[.bool false, .slice B 0 cb]] w fun e w' => e = .returned (.bool true) ∧ Below w.heap.size w w' := by
  have b0 : Blk ((w.alloc (.cells #[.bool x, .slice A na ca] 26)).alloc (.cells #[.bool false, .slice B 0 cb] 26)) w.heap.size 26 #[.bool x, .slice A na ca] := by
    have := ((Blk.new w 26 #[.bool x, .slice A na ca]).alloc (.cells #[.bool false, .slice B 0 cb] 26))
    exact this
  have b1 : Blk ((w.alloc (.cells #[.bool x, .slice A na ca] 26)).alloc (.cells #[.bool false, .slice B 0 cb] 26)) (w.heap.size + 1) 26 #[.bool false, .slice B 0 cb] := by
    have := (Blk.new (w.alloc (.cells #[.bool x, .slice A na ca] 26)) 26 #[.bool false, .slice B 0 cb])
    rwa [World.size_alloc] at this
  have bw : Below w.heap.size w ((w.alloc (.cells #[.bool x, .slice A na ca] 26)).alloc (.cells #[.bool false, .slice B 0 cb] 26)) := (by repeat (first | exact Below.refl _ _ | assumption | refine Below.alloc ?_ (by first | (simp; done) | (simp; omega) | omega) _ | refine Below.setCell ?_ (by first | (simp; done) | (simp; omega) | omega) _ | refine Below.drew ?_))
  replace sa := sa.below bw
  replace sb := sb.below bw
  have hu : (uB 200 x la && uB 200 false lb) = true := by rw [hu0, hu1]; rfl
  have hv0 := (uB_lz (wh_of_sl (x := x) sa hna) hu0).1
  subst hlb
  have HV : Hid ((validB x la && validB false []) = true) := by show _ = _; rw [hv0]; rfl
  clear hv0
  go_enter Try.func5, Try.ntmps5
  go_wp2_with fail
  refine (awake_any _).mono ?_
  rintro e u1 ⟨rfl, h1⟩
  have ch1 := bw.trans (h1.mono bw.size)
  replace b0 := b0.below h1 b0.lt
  replace b1 := b1.below h1 b1.lt
  replace sa := sa.below h1
  replace sb := sb.below h1
  have c0b0 := (b0.cell 0).trans (b := some (Value.bool x)) rfl
  have c1b0 := (b0.cell 1).trans (b := some (Value.slice A na ca)) rfl
  have c0b1 := (b1.cell 0).trans (b := some (Value.bool false)) rfl
  have c1b1 := (b1.cell 1).trans (b := some (Value.slice B 0 cb)) rfl
  have al : Below u1.heap.size u1 (u1.alloc (.cells #[.bool x, .slice A na ca, .bool false, .slice B 0 cb] 26)) := (Below.refl _ _).alloc (Nat.le_refl _) _
  have bk : Blk (u1.alloc (.cells #[.bool x, .slice A na ca, .bool false, .slice B 0 cb] 26)) u1.heap.size 26 #[.bool x, .slice A na ca, .bool false, .slice B 0 cb] := Blk.new _ _ _
  go_wp2_with fail
  clear c0b0 c1b0 c0b1 c1b1
  have ch2 := ch1.trans (al.mono ch1.size)
  replace b0 := b0.below al b0.lt
  replace b1 := b1.below al b1.lt
  replace sa := sa.below al
  replace sb := sb.below al
  refine (usable2 (most := 200) (by omega) sa hna sb hnb bk).mono ?_
  rintro e u2 ⟨rfl, h2⟩
  rw [hu]
  clear bk al
  have ch3 := ch2.trans (h2.mono ch2.size)
  replace b0 := b0.below h2 b0.lt
  replace b1 := b1.below h2 b1.lt
  replace sa := sa.below h2
  replace sb := sb.below h2
  have c0b0 := (b0.cell 0).trans (b := some (Value.bool x)) rfl
  have c1b0 := (b0.cell 1).trans (b := some (Value.slice A na ca)) rfl
  have c0b1 := (b1.cell 0).trans (b := some (Value.bool false)) rfl
  have c1b1 := (b1.cell 1).trans (b := some (Value.slice B 0 cb)) rfl
  go_wp2_with fail
  refine (divmod_zer (wh_of_sl sa hna) (wh_of_sl sb hnb) HV.out).mono ?_
  rintro e u3 ⟨vQ, vR, rfl, zQ, zR, h3⟩
  clear c0b0 c1b0 c0b1 c1b1
  have ch4 := ch3.trans (h3.mono ch3.size)
  replace b0 := b0.below h3 b0.lt
  replace b1 := b1.below h3 b1.lt
  replace sa := sa.below h3
  replace sb := sb.below h3
  clear sa sb hna hnb hu hu0 hu1
  obtain ⟨nQ, QA, cQ, HnQ, rfl, hsQ⟩ := whz_len zQ
  obtain ⟨nR, RA, cR, HnR, rfl, hsR⟩ := whz_len zR
  clear hsQ hsR
  have hd0 : decide ((0 : Int) < 0) = false := by decide
  rw [hd0] at zQ zR ⊢
  clear hd0
  have a4v : Below u3.heap.size u3 ((u3.alloc (.cells #[.bool false, .slice QA nQ cQ] 26)).alloc (.cells #[.bool false, .slice RA nR cR] 26)) := ((Below.refl _ _).alloc (Nat.le_refl _) _).alloc (by simp) _
  have b4 : Blk ((u3.alloc (.cells #[.bool false, .slice QA nQ cQ] 26)).alloc (.cells #[.bool false, .slice RA nR cR] 26)) u3.heap.size 26 #[.bool false, .slice QA nQ cQ] := (Blk.new _ _ _).alloc _
  have b5 : Blk ((u3.alloc (.cells #[.bool false, .slice QA nQ cQ] 26)).alloc (.cells #[.bool false, .slice RA nR cR] 26)) (u3.heap.size + 1) 26 #[.bool false, .slice RA nR cR] := by
    have := Blk.new (u3.alloc (.cells #[.bool false, .slice QA nQ cQ] 26)) 26 #[.bool false, .slice RA nR cR]
    rwa [World.size_alloc] at this
  have ch5 := ch4.trans (a4v.mono ch4.size)
  replace b0 := b0.below a4v b0.lt
  replace b1 := b1.below a4v b1.lt
  replace zQ := zQ.below a4v
  replace zR := zR.below a4v
  have k0_ : Hid (Lz 1024 0) := (lz_one (by decide)).mono (by omega)
  have c0b0 := (b0.cell 0).trans (b := some (Value.bool x)) rfl
  have c1b0 := (b0.cell 1).trans (b := some (Value.slice A na ca)) rfl
  have c0b1 := (b1.cell 0).trans (b := some (Value.bool false)) rfl
  have c1b1 := (b1.cell 1).trans (b := some (Value.slice B 0 cb)) rfl
  have c0b4 := (b4.cell 0).trans (b := some (Value.bool false)) rfl
  have c1b4 := (b4.cell 1).trans (b := some (Value.slice QA nQ cQ)) rfl
  have c0b5 := (b5.cell 0).trans (b := some (Value.bool false)) rfl
  have c1b5 := (b5.cell 1).trans (b := some (Value.slice RA nR cR)) rfl
  go_wp2_with fail
  refine (equal_l zQ (nil_z _) k0_.out k0_.out rfl).mono ?_
  rintro e u5 ⟨rfl, h5⟩
  clear c0b0 c1b0 c0b1 c1b1 c0b4 c1b4 c0b5 c1b5
  have ch6 := ch5.trans (h5.mono ch5.size)
  replace b0 := b0.below h5 b0.lt
  replace b1 := b1.below h5 b1.lt
  replace b4 := b4.below h5 b4.lt
  replace b5 := b5.below h5 b5.lt
  replace zQ := zQ.below h5
  replace zR := zR.below h5
  have c0b0 := (b0.cell 0).trans (b := some (Value.bool x)) rfl
  have c1b0 := (b0.cell 1).trans (b := some (Value.slice A na ca)) rfl
  have c0b1 := (b1.cell 0).trans (b := some (Value.bool false)) rfl
  have c1b1 := (b1.cell 1).trans (b := some (Value.slice B 0 cb)) rfl
  have c0b4 := (b4.cell 0).trans (b := some (Value.bool false)) rfl
  have c1b4 := (b4.cell 1).trans (b := some (Value.slice QA nQ cQ)) rfl
  have c0b5 := (b5.cell 0).trans (b := some (Value.bool false)) rfl
  have c1b5 := (b5.cell 1).trans (b := some (Value.slice RA nR cR)) rfl
  go_wp2_with fail
  refine (equal_l zR (nil_z _) k0_.out k0_.out rfl).mono ?_
  rintro e u6 ⟨rfl, h6⟩
  clear c0b0 c1b0 c0b1 c1b1 c0b4 c1b4 c0b5 c1b5
  have ch7 := ch6.trans (h6.mono ch6.size)
  replace b0 := b0.below h6 b0.lt
  replace b1 := b1.below h6 b1.lt
  replace b4 := b4.below h6 b4.lt
  replace b5 := b5.below h6 b5.lt
  replace zQ := zQ.below h6
  replace zR := zR.below h6
  go_wp2
  go_ret
  exact ⟨rfl, ch7⟩
end Go.Proofs.Ytgnidjhfiagfnaa
