/- Products of numbers with signs. Conditions: at most 1024 limbs each. -/
import Derived.Test.YtgnidjhfiagfnaaXh
namespace Go.Proofs.Ytgnidjhfiagfnaa
open Go.RowKit

set_option maxRecDepth 100000 in
set_option maxHeartbeats 2000000 in
theorem product_any (x y : Bool) (la lb : List Nat) (A B : Option Addr) (na nb ca cb : Nat) (w : World) (hsa : Sl w (.slice A na ca) la) (hsb : Sl w (.slice B nb cb) lb) (ha : la.length ≤ 1024) (hb : lb.length ≤ 1024) :
    Calls Try.prog 41 #[.agg #[.bool x, .slice A na ca], .agg #[.bool y, .slice B nb cb]] w fun e w' => ∃ A' c', e = .returned (.agg #[.bool ((!(x == y)) && decide (0 < (digs (val la * val lb)).length)), .slice A' (digs (val la * val lb)).length c']) ∧ Sl w' (.slice A' (digs (val la * val lb)).length c') (digs (val la * val lb)) ∧ Below w.heap.size w w' := by
  go_enter Try.func41, Try.ntmps41
  go_wp2
  obtain ⟨W0, hW0⟩ : ∃ W0, ((w.alloc (.cells #[.bool x, .slice A na ca] 26)).alloc (.cells #[.bool y, .slice B nb cb] 26)).alloc (.cells #[.bool false, .slice none 0 0] 26) = W0 := ⟨_, rfl⟩
  have b0 : Blk W0 w.heap.size 26 #[.bool x, .slice A na ca] := by rw [← hW0]; exact ((Blk.new w _ _).alloc _).alloc _
  have b1 : Blk W0 (w.heap.size + 1) 26 #[.bool y, .slice B nb cb] := by
    rw [← hW0]
    have := (Blk.new (w.alloc (.cells #[.bool x, .slice A na ca] 26)) 26 #[.bool y, .slice B nb cb]).alloc (.cells #[.bool false, .slice none 0 0] 26)
    rwa [World.size_alloc] at this
  have b2 : Blk W0 (w.heap.size + 2) 26 #[.bool false, .slice none 0 0] := by
    rw [← hW0]
    have := (Blk.new ((w.alloc (.cells #[.bool x, .slice A na ca] 26)).alloc (.cells #[.bool y, .slice B nb cb] 26)) 26 #[.bool false, .slice none 0 0])
    rwa [World.size_alloc, World.size_alloc] at this
  have bw : Below w.heap.size w W0 := by rw [← hW0]; exact (by repeat (first | exact Below.refl _ _ | assumption | refine Below.alloc ?_ (by first | (simp; done) | (simp; omega) | omega) _ | refine Below.setCell ?_ (by first | (simp; done) | (simp; omega) | omega) _ | refine Below.drew ?_))
  rw [hW0]
  clear hW0
  have c1 : W0.cell? ⟨w.heap.size, 0, none⟩ = some (.bool x) := (b0.cell 0).trans rfl
  have c2 : W0.cell? ⟨w.heap.size, 1, none⟩ = some (.slice A na ca) := (b0.cell 1).trans rfl
  have c3 : W0.cell? ⟨w.heap.size + 1, 0, none⟩ = some (.bool y) := (b1.cell 0).trans rfl
  have c6 : W0.cell? ⟨w.heap.size + 1, 1, none⟩ = some (.slice B nb cb) := (b1.cell 1).trans rfl
  have c4 : W0.cell? ⟨w.heap.size + 2, 0, none⟩ = some (.bool false) := (b2.cell 0).trans rfl
  have c5 : W0.cell? ⟨w.heap.size + 2, 1, none⟩ = some (.slice none 0 0) := (b2.cell 1).trans rfl
  have f4 := b2.frozen 0
  have f5 := b2.frozen 1
  have l0 := b0.lt
  have l1 := b1.lt
  have l2 := b2.lt
  have s1 := hsa.below bw
  have s2 := hsb.below bw
  have HM : Hid (Calls Try.prog 65 #[.slice A na ca, .slice B nb cb] W0.drew fun e w' => ∃ v, e = .returned v ∧ Sl w' v (digs (val la * val lb)) ∧ Below W0.heap.size W0 w') := by
    refine (multiply_sl (w := W0.drew) s1 s2 ha hb).mono ?_
    rintro e w1 ⟨v, rfl, hs, hbx⟩
    exact ⟨v, rfl, hs, below_of_drew hbx⟩
  go_region_held3 (fun w' => w'.cell? ⟨w.heap.size, 0, none⟩ = some (.bool x) ∧ w'.cell? ⟨w.heap.size, 1, none⟩ = some (.slice A na ca) ∧ w'.cell? ⟨w.heap.size + 1, 0, none⟩ = some (.bool y) ∧ w'.cell? ⟨w.heap.size + 1, 1, none⟩ = some (.slice B nb cb))
    (first | (with_reducible exact ⟨cell_drew c1, cell_drew c2, cell_drew c3, cell_drew c6⟩) | (with_reducible exact ⟨k1, k2, k3, k4⟩) | (with_reducible exact ⟨m1, m2, m3, m4⟩) | (refine ⟨?_, ?_, ?_, ?_⟩ <;> (simp [go_sem, m1, m2, m3, m4]; done)))
    (first | (go_at_call 65; refine HM.out.mono ?_; rintro e w1 ⟨v, rfl, hs, hb1⟩; have k1 := (hb1.cell (p := ⟨w.heap.size, 0, none⟩) l0).trans c1; have k2 := (hb1.cell (p := ⟨w.heap.size, 1, none⟩) l0).trans c2; have k3 := (hb1.cell (p := ⟨w.heap.size + 1, 0, none⟩) l1).trans c3; have k4 := (hb1.cell (p := ⟨w.heap.size + 1, 1, none⟩) l1).trans c6; obtain ⟨_, _, A', c', rfl, _⟩ := id hs) | (go_at_call 54; refine (signed_any _ _ _ _ _).mono ?_; rintro e w2 ⟨rfl, hb2⟩; have m1 := (hb2.cell (p := ⟨w.heap.size, 0, none⟩) (Nat.lt_of_lt_of_le l0 hb1.size)).trans k1; have m2 := (hb2.cell (p := ⟨w.heap.size, 1, none⟩) (Nat.lt_of_lt_of_le l0 hb1.size)).trans k2; have m3 := (hb2.cell (p := ⟨w.heap.size + 1, 0, none⟩) (Nat.lt_of_lt_of_le l1 hb1.size)).trans k3; have m4 := (hb2.cell (p := ⟨w.heap.size + 1, 1, none⟩) (Nat.lt_of_lt_of_le l1 hb1.size)).trans k4; have d2 := (b2.below hb1 l2).below hb2 (Nat.lt_of_lt_of_le l2 hb1.size); have g4 := (d2.cell 0).trans (b := some (Value.bool false)) rfl; have g5 := (d2.cell 1).trans (b := some (Value.slice none 0 0)) rfl; have h4 := d2.frozen 0; have h5 := d2.frozen 1; have l4 := d2.lt))
  go_wp2
  have d4 := (d2.set_ 0 (.bool ((!(x == y)) && decide (0 < (digs (val la * val lb)).length)))).set_ 1 (.slice A' (digs (val la * val lb)).length c')
  have r0 := (d4.cell 0).trans (b := some (Value.bool ((!(x == y)) && decide (0 < (digs (val la * val lb)).length)))) rfl
  have r1 := (d4.cell 1).trans (b := some (Value.slice A' (digs (val la * val lb)).length c')) rfl
  exact bodyPost_ret (v := .agg #[.bool ((!(x == y)) && decide (0 < (digs (val la * val lb)).length)), .slice A' (digs (val la * val lb)).length c']) (by simp [results, Try.f41, go_sem, r0, r1]) rfl
    ⟨A', c', rfl, (hs.below hb2).store2 d2 _ _ _ _, ((bw.trans (hb1.mono bw.size)).trans (hb2.mono (Nat.le_trans bw.size hb1.size))).setCell (p := ⟨w.heap.size + 2, 0, none⟩) (by simp) _ |>.setCell (p := ⟨w.heap.size + 2, 1, none⟩) (by simp) _⟩
end Go.Proofs.Ytgnidjhfiagfnaa
