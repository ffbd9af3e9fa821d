/- Quotient and remainder of numbers with signs. Conditions: the absolute values can be divided. -/
import Derived.Test.YtgnidjhfiagfnaaWn
import Derived.Deep.RegionHeld3
namespace Go.Proofs.Ytgnidjhfiagfnaa
open Go.RowKit

set_option maxRecDepth 100000 in
set_option maxHeartbeats 2000000 in
theorem divmod_bad {x y : Bool} {la lb : List Nat} {A B : Option Addr} {na nb ca cb : Nat} {w : World} (hsa : Sl w (.slice A na ca) la) (hsb : Sl w (.slice B nb cb) lb) (hna : Hid (la.length = na)) (hnb : Hid (lb.length = nb)) (hv : (validB x la && validB y lb) = false) :
    Calls Try.prog 29 #[.agg #[.bool x, .slice A na ca], .agg #[.bool y, .slice B nb cb]] w fun e w' => ∃ q r, e = .returned (.tuple #[q, r, .int .i64 2]) ∧ WhZ w' q 0 ∧ WhZ w' r 0 ∧ Below w.heap.size w w' := by
  obtain ⟨W0, hW0⟩ : ∃ W0, ((((w.alloc (.cells #[.bool x, .slice A na ca] 26)).alloc (.cells #[.bool y, .slice B nb cb] 26)).alloc (.cells #[.bool false, .slice none 0 0] 26)).alloc (.cells #[.bool false, .slice none 0 0] 26)).alloc (.cells #[.bool x, .slice A na ca, .bool y, .slice B nb cb] 26) = W0 := ⟨_, rfl⟩
  have b0 : Blk W0 w.heap.size 26 #[.bool x, .slice A na ca] := by rw [← hW0]; exact ((((Blk.new w _ _).alloc _).alloc _).alloc _).alloc _
  have b1 : Blk W0 (w.heap.size + 1) 26 #[.bool y, .slice B nb cb] := by
    rw [← hW0]
    have := (((Blk.new (w.alloc (.cells #[.bool x, .slice A na ca] 26)) 26 #[.bool y, .slice B nb cb]).alloc (.cells #[.bool false, .slice none 0 0] 26)).alloc (.cells #[.bool false, .slice none 0 0] 26)).alloc (.cells #[.bool x, .slice A na ca, .bool y, .slice B nb cb] 26)
    rwa [World.size_alloc] at this
  have b2 : Blk W0 (w.heap.size + 2) 26 #[.bool false, .slice none 0 0] := by
    rw [← hW0]
    have := ((Blk.new ((w.alloc (.cells #[.bool x, .slice A na ca] 26)).alloc (.cells #[.bool y, .slice B nb cb] 26)) 26 #[.bool false, .slice none 0 0]).alloc (.cells #[.bool false, .slice none 0 0] 26)).alloc (.cells #[.bool x, .slice A na ca, .bool y, .slice B nb cb] 26)
    rwa [World.size_alloc, World.size_alloc] at this
  have b3 : Blk W0 (w.heap.size + 3) 26 #[.bool false, .slice none 0 0] := by
    rw [← hW0]
    have := (Blk.new (((w.alloc (.cells #[.bool x, .slice A na ca] 26)).alloc (.cells #[.bool y, .slice B nb cb] 26)).alloc (.cells #[.bool false, .slice none 0 0] 26)) 26 #[.bool false, .slice none 0 0]).alloc (.cells #[.bool x, .slice A na ca, .bool y, .slice B nb cb] 26)
    rwa [World.size_alloc, World.size_alloc, World.size_alloc] at this
  have b4 : Blk W0 (w.heap.size + 1 + 1 + 1 + 1) 26 #[.bool x, .slice A na ca, .bool y, .slice B nb cb] := by
    rw [← hW0]
    have := (Blk.new ((((w.alloc (.cells #[.bool x, .slice A na ca] 26)).alloc (.cells #[.bool y, .slice B nb cb] 26)).alloc (.cells #[.bool false, .slice none 0 0] 26)).alloc (.cells #[.bool false, .slice none 0 0] 26)) 26 #[.bool x, .slice A na ca, .bool y, .slice B nb cb])
    rwa [World.size_alloc, World.size_alloc, World.size_alloc, World.size_alloc] at this
  have bw : Below w.heap.size w W0 := by rw [← hW0]; exact (by repeat (first | exact Below.refl _ _ | assumption | refine Below.alloc ?_ (by first | (simp; done) | (simp; omega) | omega) _ | refine Below.setCell ?_ (by first | (simp; done) | (simp; omega) | omega) _ | refine Below.drew ?_))
  have HW : Hid (((((w.alloc (.cells #[.bool x, .slice A na ca] 26)).alloc (.cells #[.bool y, .slice B nb cb] 26)).alloc (.cells #[.bool false, .slice none 0 0] 26)).alloc (.cells #[.bool false, .slice none 0 0] 26)).alloc (.cells #[.bool x, .slice A na ca, .bool y, .slice B nb cb] 26) = W0) := hW0
  clear hW0
  have hav := allValid2 (hsa.below bw) hna (hsb.below bw) hnb b4
  rw [hv] at hav
  have HJ : Hid (Calls Try.prog 48 #[.slice (some ⟨w.heap.size + 1 + 1 + 1 + 1, 0, none⟩) 2 2] W0 fun e w' => e = .returned (.bool false) ∧ Below W0.heap.size W0 w') := hav
  have l2 := b2.lt
  have l3 := b3.lt
  clear hav hv hsa hsb
  go_enter Try.func29, Try.ntmps29
  go_wp2_with (rw [HW.out]; go_at_call 48; refine HJ.out.mono ?_; rintro e w1 ⟨rfl, hb1⟩; have d2 := b2.below hb1 l2; have d3 := b3.below hb1 l3; have g2 := (d2.cell 0).trans (b := some (Value.bool false)) rfl; have g3 := (d2.cell 1).trans (b := some (Value.slice none 0 0)) rfl; have g4 := (d3.cell 0).trans (b := some (Value.bool false)) rfl; have g5 := (d3.cell 1).trans (b := some (Value.slice none 0 0)) rfl; have h2 := d2.frozen 0; have h3 := d2.frozen 1; have h4 := d3.frozen 0; have h5 := d3.frozen 1; have l4 := d2.lt; have l5 := d3.lt)
  have q2 := (d2.set_ 0 (.bool false)).set_ 1 (.slice none 0 0)
  have q3 := (((d3.far (p := ⟨w.heap.size + 2, 0, none⟩) (by simp) (.bool false)).far (p := ⟨w.heap.size + 2, 1, none⟩) (by simp) (.slice none 0 0)).set_ 0 (.bool false)).set_ 1 (.slice none 0 0)
  have p2 := (q2.far (p := ⟨w.heap.size + 3, 0, none⟩) (by simp) (.bool false)).far (p := ⟨w.heap.size + 3, 1, none⟩) (by simp) (.slice none 0 0)
  have r0 := (p2.cell 0).trans (b := some (Value.bool false)) rfl
  have r1 := (p2.cell 1).trans (b := some (Value.slice none 0 0)) rfl
  have r2 := (q3.cell 0).trans (b := some (Value.bool false)) rfl
  have r3 := (q3.cell 1).trans (b := some (Value.slice none 0 0)) rfl
  exact bodyPost_ret (v := .tuple #[.agg #[.bool false, .slice none 0 0], .agg #[.bool false, .slice none 0 0], .int .i64 2]) (by simp [results, Try.f29, go_sem, r0, r1, r2, r3]) rfl
    ⟨_, _, rfl, whz_zero _, whz_zero _, ((((bw.trans (hb1.mono bw.size)).setCell (p := ⟨w.heap.size + 2, 0, none⟩) (by simp) _).setCell (p := ⟨w.heap.size + 2, 1, none⟩) (by simp) _).setCell (p := ⟨w.heap.size + 3, 0, none⟩) (by simp) _).setCell (p := ⟨w.heap.size + 3, 1, none⟩) (by simp) _⟩

set_option maxRecDepth 100000 in
set_option maxHeartbeats 2000000 in
theorem divmod_zero {x y : Bool} {la lb : List Nat} {A B : Option Addr} {na ca cb : Nat} {w : World} (hsa : Sl w (.slice A na ca) la) (hsb : Sl w (.slice B 0 cb) lb) (hna : Hid (la.length = na)) (hnb : Hid (lb.length = 0)) (hv : (validB x la && validB y lb) = true) :
    Calls Try.prog 29 #[.agg #[.bool x, .slice A na ca], .agg #[.bool y, .slice B 0 cb]] w fun e w' => ∃ q r, e = .returned (.tuple #[q, r, .int .i64 11]) ∧ WhZ w' q 0 ∧ WhZ w' r 0 ∧ Below w.heap.size w w' := by
  obtain ⟨W0, hW0⟩ : ∃ W0, ((((w.alloc (.cells #[.bool x, .slice A na ca] 26)).alloc (.cells #[.bool y, .slice B 0 cb] 26)).alloc (.cells #[.bool false, .slice none 0 0] 26)).alloc (.cells #[.bool false, .slice none 0 0] 26)).alloc (.cells #[.bool x, .slice A na ca, .bool y, .slice B 0 cb] 26) = W0 := ⟨_, rfl⟩
  have b0 : Blk W0 w.heap.size 26 #[.bool x, .slice A na ca] := by rw [← hW0]; exact ((((Blk.new w _ _).alloc _).alloc _).alloc _).alloc _
  have b1 : Blk W0 (w.heap.size + 1) 26 #[.bool y, .slice B 0 cb] := by
    rw [← hW0]
    have := (((Blk.new (w.alloc (.cells #[.bool x, .slice A na ca] 26)) 26 #[.bool y, .slice B 0 cb]).alloc (.cells #[.bool false, .slice none 0 0] 26)).alloc (.cells #[.bool false, .slice none 0 0] 26)).alloc (.cells #[.bool x, .slice A na ca, .bool y, .slice B 0 cb] 26)
    rwa [World.size_alloc] at this
  have b2 : Blk W0 (w.heap.size + 2) 26 #[.bool false, .slice none 0 0] := by
    rw [← hW0]
    have := ((Blk.new ((w.alloc (.cells #[.bool x, .slice A na ca] 26)).alloc (.cells #[.bool y, .slice B 0 cb] 26)) 26 #[.bool false, .slice none 0 0]).alloc (.cells #[.bool false, .slice none 0 0] 26)).alloc (.cells #[.bool x, .slice A na ca, .bool y, .slice B 0 cb] 26)
    rwa [World.size_alloc, World.size_alloc] at this
  have b3 : Blk W0 (w.heap.size + 3) 26 #[.bool false, .slice none 0 0] := by
    rw [← hW0]
    have := (Blk.new (((w.alloc (.cells #[.bool x, .slice A na ca] 26)).alloc (.cells #[.bool y, .slice B 0 cb] 26)).alloc (.cells #[.bool false, .slice none 0 0] 26)) 26 #[.bool false, .slice none 0 0]).alloc (.cells #[.bool x, .slice A na ca, .bool y, .slice B 0 cb] 26)
    rwa [World.size_alloc, World.size_alloc, World.size_alloc] at this
  have b4 : Blk W0 (w.heap.size + 1 + 1 + 1 + 1) 26 #[.bool x, .slice A na ca, .bool y, .slice B 0 cb] := by
    rw [← hW0]
    have := (Blk.new ((((w.alloc (.cells #[.bool x, .slice A na ca] 26)).alloc (.cells #[.bool y, .slice B 0 cb] 26)).alloc (.cells #[.bool false, .slice none 0 0] 26)).alloc (.cells #[.bool false, .slice none 0 0] 26)) 26 #[.bool x, .slice A na ca, .bool y, .slice B 0 cb])
    rwa [World.size_alloc, World.size_alloc, World.size_alloc, World.size_alloc] at this
  have bw : Below w.heap.size w W0 := by rw [← hW0]; exact (by repeat (first | exact Below.refl _ _ | assumption | refine Below.alloc ?_ (by first | (simp; done) | (simp; omega) | omega) _ | refine Below.setCell ?_ (by first | (simp; done) | (simp; omega) | omega) _ | refine Below.drew ?_))
  have HW : Hid (((((w.alloc (.cells #[.bool x, .slice A na ca] 26)).alloc (.cells #[.bool y, .slice B 0 cb] 26)).alloc (.cells #[.bool false, .slice none 0 0] 26)).alloc (.cells #[.bool false, .slice none 0 0] 26)).alloc (.cells #[.bool x, .slice A na ca, .bool y, .slice B 0 cb] 26) = W0) := hW0
  clear hW0
  have hav := allValid2 (hsa.below bw) hna (hsb.below bw) hnb b4
  rw [hv] at hav
  have HJ : Hid (Calls Try.prog 48 #[.slice (some ⟨w.heap.size + 1 + 1 + 1 + 1, 0, none⟩) 2 2] W0 fun e w' => e = .returned (.bool true) ∧ Below W0.heap.size W0 w') := hav
  have l0 := b0.lt
  have l1 := b1.lt
  have l2 := b2.lt
  have l3 := b3.lt
  clear hav hv hsa hsb
  go_enter Try.func29, Try.ntmps29
  go_wp2_with (rw [HW.out]; go_at_call 48; refine HJ.out.mono ?_; rintro e w1 ⟨rfl, hb1⟩; have d0 := b0.below hb1 l0; have d1 := b1.below hb1 l1; have d2 := b2.below hb1 l2; have d3 := b3.below hb1 l3; have g0 := (d0.cell 0).trans (b := some (Value.bool x)) rfl; have g1 := (d0.cell 1).trans (b := some (Value.slice A na ca)) rfl; have i0 := (d1.cell 0).trans (b := some (Value.bool y)) rfl; have i1 := (d1.cell 1).trans (b := some (Value.slice B 0 cb)) rfl; have g2 := (d2.cell 0).trans (b := some (Value.bool false)) rfl; have g3 := (d2.cell 1).trans (b := some (Value.slice none 0 0)) rfl; have g4 := (d3.cell 0).trans (b := some (Value.bool false)) rfl; have g5 := (d3.cell 1).trans (b := some (Value.slice none 0 0)) rfl; have h2 := d2.frozen 0; have h3 := d2.frozen 1; have h4 := d3.frozen 0; have h5 := d3.frozen 1; have l4 := d2.lt; have l5 := d3.lt; have l6 := d1.lt; have l7 := d0.lt)
  have q2 := (d2.set_ 0 (.bool false)).set_ 1 (.slice none 0 0)
  have q3 := (((d3.far (p := ⟨w.heap.size + 2, 0, none⟩) (by simp) (.bool false)).far (p := ⟨w.heap.size + 2, 1, none⟩) (by simp) (.slice none 0 0)).set_ 0 (.bool false)).set_ 1 (.slice none 0 0)
  have p2 := (q2.far (p := ⟨w.heap.size + 3, 0, none⟩) (by simp) (.bool false)).far (p := ⟨w.heap.size + 3, 1, none⟩) (by simp) (.slice none 0 0)
  have r0 := (p2.cell 0).trans (b := some (Value.bool false)) rfl
  have r1 := (p2.cell 1).trans (b := some (Value.slice none 0 0)) rfl
  have r2 := (q3.cell 0).trans (b := some (Value.bool false)) rfl
  have r3 := (q3.cell 1).trans (b := some (Value.slice none 0 0)) rfl
  exact bodyPost_ret (v := .tuple #[.agg #[.bool false, .slice none 0 0], .agg #[.bool false, .slice none 0 0], .int .i64 11]) (by simp [results, Try.f29, go_sem, r0, r1, r2, r3]) rfl
    ⟨_, _, rfl, whz_zero _, whz_zero _, ((((bw.trans (hb1.mono bw.size)).setCell (p := ⟨w.heap.size + 2, 0, none⟩) (by simp) _).setCell (p := ⟨w.heap.size + 2, 1, none⟩) (by simp) _).setCell (p := ⟨w.heap.size + 3, 0, none⟩) (by simp) _).setCell (p := ⟨w.heap.size + 3, 1, none⟩) (by simp) _⟩

end Go.Proofs.Ytgnidjhfiagfnaa
