/- Sums of numbers of different signs. Conditions: the absolute values are in normal form and not too long. -/
import Derived.Test.YtgnidjhfiagfnaaWh
namespace Go.Proofs.Ytgnidjhfiagfnaa
open Go.RowKit

set_option maxRecDepth 100000 in
set_option maxHeartbeats 2000000 in
theorem sum_nk (la lb : List Nat) (A B : Option Addr) (na nb ca cb : Nat) (w : World) (hsa : Sl w (.slice A na ca) la) (hsb : Sl w (.slice B nb cb) lb) (ha : la.length ≤ 4000) (hb : lb.length ≤ 4000) (na' : Norm la) (nb' : Norm lb) (hle : val lb ≤ val la) :
    Calls Try.prog 39 #[.agg #[.bool true, .slice A na ca], .agg #[.bool false, .slice B nb cb]] w fun e w' => ∃ A' c', e = .returned (.agg #[.bool (true && decide (0 < (digs (val la - val lb)).length)), .slice A' (digs (val la - val lb)).length c']) ∧ Sl w' (.slice A' (digs (val la - val lb)).length c') (digs (val la - val lb)) ∧ Below w.heap.size w w' := by
  have hcl : ¬ cmpL la lb < 0 := by rw [cmpL_eq na' nb']; unfold cmpN; split <;> (try split) <;> omega
  obtain ⟨W0, hW0⟩ : ∃ W0, ((w.alloc (.cells #[.bool true, .slice A na ca] 26)).alloc (.cells #[.bool false, .slice B nb cb] 26)).alloc (.cells #[.bool false, .slice none 0 0] 26) = W0 := ⟨_, rfl⟩
  have b0 : Blk W0 w.heap.size 26 #[.bool true, .slice A na ca] := by rw [← hW0]; exact ((Blk.new w _ _).alloc _).alloc _
  have b1 : Blk W0 (w.heap.size + 1) 26 #[.bool false, .slice B nb cb] := by
    rw [← hW0]
    have := (Blk.new (w.alloc (.cells #[.bool true, .slice A na ca] 26)) 26 #[.bool false, .slice B nb cb]).alloc (.cells #[.bool false, .slice none 0 0] 26)
    rwa [World.size_alloc] at this
  have b2 : Blk W0 (w.heap.size + 2) 26 #[.bool false, .slice none 0 0] := by
    rw [← hW0]
    have := (Blk.new ((w.alloc (.cells #[.bool true, .slice A na ca] 26)).alloc (.cells #[.bool false, .slice B nb cb] 26)) 26 #[.bool false, .slice none 0 0])
    rwa [World.size_alloc, World.size_alloc] at this
  have bw : Below w.heap.size w W0 := by rw [← hW0]; exact (by repeat (first | exact Below.refl _ _ | assumption | refine Below.alloc ?_ (by first | (simp; done) | (simp; omega) | omega) _ | refine Below.setCell ?_ (by first | (simp; done) | (simp; omega) | omega) _ | refine Below.drew ?_))
  have s1 := hsa.below bw
  have s2 := hsb.below bw
  have HW : Hid (((w.alloc (.cells #[.bool true, .slice A na ca] 26)).alloc (.cells #[.bool false, .slice B nb cb] 26)).alloc (.cells #[.bool false, .slice none 0 0] 26) = W0) := hW0
  clear hW0
  go_enter Try.func39, Try.ntmps39
  go_wp2_with (rw [HW.out]; go_at_call 62; refine (compare_sl s1 s2 (by omega) (by omega)).mono ?_; rintro e w1 ⟨rfl, hbc⟩; have e0 := b0.below hbc b0.lt; have e1 := b1.below hbc b1.lt; have e2 := b2.below hbc b2.lt; have x1 := (e0.cell 0).trans (b := some (Value.bool true)) rfl; have x2 := (e0.cell 1).trans (b := some (Value.slice A na ca)) rfl; have x3 := (e1.cell 0).trans (b := some (Value.bool false)) rfl; have x4 := (e1.cell 1).trans (b := some (Value.slice B nb cb)) rfl; have y1 := e0.frozen 0; have y2 := e0.frozen 1; have y3 := e1.frozen 0; have y4 := e1.frozen 1; have z0 := e0.lt; have z1 := e1.lt)
  have t1 := s1.below hbc
  have t2 := s2.below hbc
  have bv := bw.trans (hbc.mono bw.size)
  clear b0 b1 b2 s1 s2 bw x1 x2 x3 x4 y1 y2 y3 y4 z0 z1 HW
  obtain ⟨W1, rfl⟩ : ∃ W1, W1 = w1 := ⟨_, rfl⟩
  have b0 := e0
  have b1 := e1
  have b2 := e2
  have bw := bv
  have s1 := t1
  have s2 := t2
  clear t1 t2 e0 e1 e2 bv hbc
  have c1 : W1.cell? ⟨w.heap.size, 0, none⟩ = some (.bool true) := (b0.cell 0).trans rfl
  have c2 : W1.cell? ⟨w.heap.size, 1, none⟩ = some (.slice A na ca) := (b0.cell 1).trans rfl
  have c0 : W1.cell? ⟨w.heap.size + 1, 0, none⟩ = some (.bool false) := (b1.cell 0).trans rfl
  have c3 : W1.cell? ⟨w.heap.size + 1, 1, none⟩ = some (.slice B nb cb) := (b1.cell 1).trans rfl
  have c4 : W1.cell? ⟨w.heap.size + 2, 0, none⟩ = some (.bool false) := (b2.cell 0).trans rfl
  have c5 : W1.cell? ⟨w.heap.size + 2, 1, none⟩ = some (.slice none 0 0) := (b2.cell 1).trans rfl
  have fa := b0.frozen 0
  have fb := b0.frozen 1
  have fc := b1.frozen 0
  have fd := b1.frozen 1
  have f4 := b2.frozen 0
  have f5 := b2.frozen 1
  have l0 := b0.lt
  have l1 := b1.lt
  have l2 := b2.lt
  go_region_held3 (fun w' => w'.cell? ⟨w.heap.size, 0, none⟩ = some (.bool true) ∧ w'.cell? ⟨w.heap.size, 1, none⟩ = some (.slice A na ca) ∧ w'.cell? ⟨w.heap.size + 1, 1, none⟩ = some (.slice B nb cb))
    (first | exact ⟨c1, c2, c3⟩ | exact ⟨k1, k2, k3⟩ | exact ⟨m1, m2, m3⟩ | (refine ⟨?_, ?_, ?_⟩ <;> (simp [go_sem, m1, m2, m3]; done)))
    (first | (go_at_call 61; refine (subtract_sl (w := W1.drew) s1 s2 (by omega) (by omega) (by omega)).mono ?_; rintro e w1 ⟨v, rfl, hs, hbx⟩; have hb1 := below_of_drew hbx; clear hbx; have k1 := (hb1.cell (p := ⟨w.heap.size, 0, none⟩) l0).trans c1; have k2 := (hb1.cell (p := ⟨w.heap.size, 1, none⟩) l0).trans c2; have k3 := (hb1.cell (p := ⟨w.heap.size + 1, 1, none⟩) l1).trans c3; obtain ⟨_, _, A', c', rfl, _⟩ := id hs) | (go_at_call 54; refine (signed_any _ _ _ _ _).mono ?_; rintro e w2 ⟨rfl, hb2⟩; have m1 := (hb2.cell (p := ⟨w.heap.size, 0, none⟩) (Nat.lt_of_lt_of_le l0 hb1.size)).trans k1; have m2 := (hb2.cell (p := ⟨w.heap.size, 1, none⟩) (Nat.lt_of_lt_of_le l0 hb1.size)).trans k2; have m3 := (hb2.cell (p := ⟨w.heap.size + 1, 1, none⟩) (Nat.lt_of_lt_of_le l1 hb1.size)).trans k3; have d2 := (b2.below hb1 l2).below hb2 (Nat.lt_of_lt_of_le l2 hb1.size); have g4 := (d2.cell 0).trans (b := some (Value.bool false)) rfl; have g5 := (d2.cell 1).trans (b := some (Value.slice none 0 0)) rfl; have h4 := d2.frozen 0; have h5 := d2.frozen 1; have l4 := d2.lt))
  go_wp2
  have d4 := (d2.set_ 0 (.bool (decide (0 < (digs (val la - val lb)).length)))).set_ 1 (.slice A' (digs (val la - val lb)).length c')
  have r0 := (d4.cell 0).trans (b := some (Value.bool (decide (0 < (digs (val la - val lb)).length)))) rfl
  have r1 := (d4.cell 1).trans (b := some (Value.slice A' (digs (val la - val lb)).length c')) rfl
  exact bodyPost_ret (v := .agg #[.bool (decide (0 < (digs (val la - val lb)).length)), .slice A' (digs (val la - val lb)).length c']) (by simp [results, Try.f39, go_sem, r0, r1]) rfl
    ⟨A', c', rfl, (hs.below hb2).store2 d2 _ _ _ _, ((bw.trans (hb1.mono bw.size)).trans (hb2.mono (Nat.le_trans bw.size hb1.size))).setCell (p := ⟨w.heap.size + 2, 0, none⟩) (by simp) _ |>.setCell (p := ⟨w.heap.size + 2, 1, none⟩) (by simp) _⟩

set_option maxRecDepth 100000 in
set_option maxHeartbeats 2000000 in
theorem sum_ns (la lb : List Nat) (A B : Option Addr) (na nb ca cb : Nat) (w : World) (hsa : Sl w (.slice A na ca) la) (hsb : Sl w (.slice B nb cb) lb) (ha : la.length ≤ 4000) (hb : lb.length ≤ 4000) (na' : Norm la) (nb' : Norm lb) (hle : val la < val lb) :
    Calls Try.prog 39 #[.agg #[.bool true, .slice A na ca], .agg #[.bool false, .slice B nb cb]] w fun e w' => ∃ A' c', e = .returned (.agg #[.bool (false && decide (0 < (digs (val lb - val la)).length)), .slice A' (digs (val lb - val la)).length c']) ∧ Sl w' (.slice A' (digs (val lb - val la)).length c') (digs (val lb - val la)) ∧ Below w.heap.size w w' := by
  have hcl : cmpL la lb < 0 := by rw [cmpL_eq na' nb']; unfold cmpN; rw [if_neg (by omega), if_pos hle]; omega
  obtain ⟨W0, hW0⟩ : ∃ W0, ((w.alloc (.cells #[.bool true, .slice A na ca] 26)).alloc (.cells #[.bool false, .slice B nb cb] 26)).alloc (.cells #[.bool false, .slice none 0 0] 26) = W0 := ⟨_, rfl⟩
  have b0 : Blk W0 w.heap.size 26 #[.bool true, .slice A na ca] := by rw [← hW0]; exact ((Blk.new w _ _).alloc _).alloc _
  have b1 : Blk W0 (w.heap.size + 1) 26 #[.bool false, .slice B nb cb] := by
    rw [← hW0]
    have := (Blk.new (w.alloc (.cells #[.bool true, .slice A na ca] 26)) 26 #[.bool false, .slice B nb cb]).alloc (.cells #[.bool false, .slice none 0 0] 26)
    rwa [World.size_alloc] at this
  have b2 : Blk W0 (w.heap.size + 2) 26 #[.bool false, .slice none 0 0] := by
    rw [← hW0]
    have := (Blk.new ((w.alloc (.cells #[.bool true, .slice A na ca] 26)).alloc (.cells #[.bool false, .slice B nb cb] 26)) 26 #[.bool false, .slice none 0 0])
    rwa [World.size_alloc, World.size_alloc] at this
  have bw : Below w.heap.size w W0 := by rw [← hW0]; exact (by repeat (first | exact Below.refl _ _ | assumption | refine Below.alloc ?_ (by first | (simp; done) | (simp; omega) | omega) _ | refine Below.setCell ?_ (by first | (simp; done) | (simp; omega) | omega) _ | refine Below.drew ?_))
  have s1 := hsa.below bw
  have s2 := hsb.below bw
  have HW : Hid (((w.alloc (.cells #[.bool true, .slice A na ca] 26)).alloc (.cells #[.bool false, .slice B nb cb] 26)).alloc (.cells #[.bool false, .slice none 0 0] 26) = W0) := hW0
  clear hW0
  go_enter Try.func39, Try.ntmps39
  go_wp2_with (rw [HW.out]; go_at_call 62; refine (compare_sl s1 s2 (by omega) (by omega)).mono ?_; rintro e w1 ⟨rfl, hbc⟩; have e0 := b0.below hbc b0.lt; have e1 := b1.below hbc b1.lt; have e2 := b2.below hbc b2.lt; have x1 := (e0.cell 0).trans (b := some (Value.bool true)) rfl; have x2 := (e0.cell 1).trans (b := some (Value.slice A na ca)) rfl; have x3 := (e1.cell 0).trans (b := some (Value.bool false)) rfl; have x4 := (e1.cell 1).trans (b := some (Value.slice B nb cb)) rfl; have y1 := e0.frozen 0; have y2 := e0.frozen 1; have y3 := e1.frozen 0; have y4 := e1.frozen 1; have z0 := e0.lt; have z1 := e1.lt)
  have t1 := s1.below hbc
  have t2 := s2.below hbc
  have bv := bw.trans (hbc.mono bw.size)
  clear b0 b1 b2 s1 s2 bw x1 x2 x3 x4 y1 y2 y3 y4 z0 z1 HW
  obtain ⟨W1, hW1⟩ : ∃ W1, (((w1.setCell ⟨w.heap.size, 0, none⟩ (.bool false)).setCell ⟨w.heap.size, 1, none⟩ (.slice B nb cb)).setCell ⟨w.heap.size + 1, 0, none⟩ (.bool true)).setCell ⟨w.heap.size + 1, 1, none⟩ (.slice A na ca) = W1 := ⟨_, rfl⟩
  have b0 : Blk W1 w.heap.size 26 #[.bool false, .slice B nb cb] := by rw [← hW1]; exact (((e0.set_ 0 (.bool false)).set_ 1 (.slice B nb cb)).far (p := ⟨w.heap.size + 1, 0, none⟩) (by simp) _).far (p := ⟨w.heap.size + 1, 1, none⟩) (by simp) _
  have b1 : Blk W1 (w.heap.size + 1) 26 #[.bool true, .slice A na ca] := by rw [← hW1]; exact (((e1.far (p := ⟨w.heap.size, 0, none⟩) (by simp) _).far (p := ⟨w.heap.size, 1, none⟩) (by simp) _).set_ 0 (.bool true)).set_ 1 (.slice A na ca)
  have b2 : Blk W1 (w.heap.size + 2) 26 #[.bool false, .slice none 0 0] := by rw [← hW1]; exact (((e2.far (p := ⟨w.heap.size, 0, none⟩) (by simp) _).far (p := ⟨w.heap.size, 1, none⟩) (by simp) _).far (p := ⟨w.heap.size + 1, 0, none⟩) (by simp) _).far (p := ⟨w.heap.size + 1, 1, none⟩) (by simp) _
  have bw : Below w.heap.size w W1 := by rw [← hW1]; exact (((bv.setCell (p := ⟨w.heap.size, 0, none⟩) (by simp) _).setCell (p := ⟨w.heap.size, 1, none⟩) (by simp) _).setCell (p := ⟨w.heap.size + 1, 0, none⟩) (by simp) _).setCell (p := ⟨w.heap.size + 1, 1, none⟩) (by simp) _
  have s1 : Sl W1 (.slice A na ca) la := by rw [← hW1]; exact (t1.store2 e0 _ _ _ _).store2 ((e1.far (p := ⟨w.heap.size, 0, none⟩) (by simp) _).far (p := ⟨w.heap.size, 1, none⟩) (by simp) _) _ _ _ _
  have s2 : Sl W1 (.slice B nb cb) lb := by rw [← hW1]; exact (t2.store2 e0 _ _ _ _).store2 ((e1.far (p := ⟨w.heap.size, 0, none⟩) (by simp) _).far (p := ⟨w.heap.size, 1, none⟩) (by simp) _) _ _ _ _
  rw [hW1]
  clear hW1 t1 t2 e0 e1 e2 bv hbc
  have c1 : W1.cell? ⟨w.heap.size, 0, none⟩ = some (.bool false) := (b0.cell 0).trans rfl
  have c2 : W1.cell? ⟨w.heap.size, 1, none⟩ = some (.slice B nb cb) := (b0.cell 1).trans rfl
  have c0 : W1.cell? ⟨w.heap.size + 1, 0, none⟩ = some (.bool true) := (b1.cell 0).trans rfl
  have c3 : W1.cell? ⟨w.heap.size + 1, 1, none⟩ = some (.slice A na ca) := (b1.cell 1).trans rfl
  have c4 : W1.cell? ⟨w.heap.size + 2, 0, none⟩ = some (.bool false) := (b2.cell 0).trans rfl
  have c5 : W1.cell? ⟨w.heap.size + 2, 1, none⟩ = some (.slice none 0 0) := (b2.cell 1).trans rfl
  have fa := b0.frozen 0
  have fb := b0.frozen 1
  have fc := b1.frozen 0
  have fd := b1.frozen 1
  have f4 := b2.frozen 0
  have f5 := b2.frozen 1
  have l0 := b0.lt
  have l1 := b1.lt
  have l2 := b2.lt
  go_region_held3 (fun w' => w'.cell? ⟨w.heap.size, 0, none⟩ = some (.bool false) ∧ w'.cell? ⟨w.heap.size, 1, none⟩ = some (.slice B nb cb) ∧ w'.cell? ⟨w.heap.size + 1, 1, none⟩ = some (.slice A na ca))
    (first | exact ⟨c1, c2, c3⟩ | exact ⟨k1, k2, k3⟩ | exact ⟨m1, m2, m3⟩ | (refine ⟨?_, ?_, ?_⟩ <;> (simp [go_sem, m1, m2, m3]; done)))
    (first | (go_at_call 61; refine (subtract_sl (w := W1.drew) s2 s1 (by omega) (by omega) (by omega)).mono ?_; rintro e w1 ⟨v, rfl, hs, hbx⟩; have hb1 := below_of_drew hbx; clear hbx; have k1 := (hb1.cell (p := ⟨w.heap.size, 0, none⟩) l0).trans c1; have k2 := (hb1.cell (p := ⟨w.heap.size, 1, none⟩) l0).trans c2; have k3 := (hb1.cell (p := ⟨w.heap.size + 1, 1, none⟩) l1).trans c3; obtain ⟨_, _, A', c', rfl, _⟩ := id hs) | (go_at_call 54; refine (signed_any _ _ _ _ _).mono ?_; rintro e w2 ⟨rfl, hb2⟩; have m1 := (hb2.cell (p := ⟨w.heap.size, 0, none⟩) (Nat.lt_of_lt_of_le l0 hb1.size)).trans k1; have m2 := (hb2.cell (p := ⟨w.heap.size, 1, none⟩) (Nat.lt_of_lt_of_le l0 hb1.size)).trans k2; have m3 := (hb2.cell (p := ⟨w.heap.size + 1, 1, none⟩) (Nat.lt_of_lt_of_le l1 hb1.size)).trans k3; have d2 := (b2.below hb1 l2).below hb2 (Nat.lt_of_lt_of_le l2 hb1.size); have g4 := (d2.cell 0).trans (b := some (Value.bool false)) rfl; have g5 := (d2.cell 1).trans (b := some (Value.slice none 0 0)) rfl; have h4 := d2.frozen 0; have h5 := d2.frozen 1; have l4 := d2.lt))
  go_wp2
  have d4 := (d2.set_ 0 (.bool (false))).set_ 1 (.slice A' (digs (val lb - val la)).length c')
  have r0 := (d4.cell 0).trans (b := some (Value.bool (false))) rfl
  have r1 := (d4.cell 1).trans (b := some (Value.slice A' (digs (val lb - val la)).length c')) rfl
  exact bodyPost_ret (v := .agg #[.bool (false), .slice A' (digs (val lb - val la)).length c']) (by simp [results, Try.f39, go_sem, r0, r1]) rfl
    ⟨A', c', rfl, (hs.below hb2).store2 d2 _ _ _ _, ((bw.trans (hb1.mono bw.size)).trans (hb2.mono (Nat.le_trans bw.size hb1.size))).setCell (p := ⟨w.heap.size + 2, 0, none⟩) (by simp) _ |>.setCell (p := ⟨w.heap.size + 2, 1, none⟩) (by simp) _⟩

set_option maxRecDepth 100000 in
set_option maxHeartbeats 2000000 in
theorem sum_pk (la lb : List Nat) (A B : Option Addr) (na nb ca cb : Nat) (w : World) (hsa : Sl w (.slice A na ca) la) (hsb : Sl w (.slice B nb cb) lb) (ha : la.length ≤ 4000) (hb : lb.length ≤ 4000) (na' : Norm la) (nb' : Norm lb) (hle : val lb ≤ val la) :
    Calls Try.prog 39 #[.agg #[.bool false, .slice A na ca], .agg #[.bool true, .slice B nb cb]] w fun e w' => ∃ A' c', e = .returned (.agg #[.bool (false && decide (0 < (digs (val la - val lb)).length)), .slice A' (digs (val la - val lb)).length c']) ∧ Sl w' (.slice A' (digs (val la - val lb)).length c') (digs (val la - val lb)) ∧ Below w.heap.size w w' := by
  have hcl : ¬ cmpL la lb < 0 := by rw [cmpL_eq na' nb']; unfold cmpN; split <;> (try split) <;> omega
  obtain ⟨W0, hW0⟩ : ∃ W0, ((w.alloc (.cells #[.bool false, .slice A na ca] 26)).alloc (.cells #[.bool true, .slice B nb cb] 26)).alloc (.cells #[.bool false, .slice none 0 0] 26) = W0 := ⟨_, rfl⟩
  have b0 : Blk W0 w.heap.size 26 #[.bool false, .slice A na ca] := by rw [← hW0]; exact ((Blk.new w _ _).alloc _).alloc _
  have b1 : Blk W0 (w.heap.size + 1) 26 #[.bool true, .slice B nb cb] := by
    rw [← hW0]
    have := (Blk.new (w.alloc (.cells #[.bool false, .slice A na ca] 26)) 26 #[.bool true, .slice B nb cb]).alloc (.cells #[.bool false, .slice none 0 0] 26)
    rwa [World.size_alloc] at this
  have b2 : Blk W0 (w.heap.size + 2) 26 #[.bool false, .slice none 0 0] := by
    rw [← hW0]
    have := (Blk.new ((w.alloc (.cells #[.bool false, .slice A na ca] 26)).alloc (.cells #[.bool true, .slice B nb cb] 26)) 26 #[.bool false, .slice none 0 0])
    rwa [World.size_alloc, World.size_alloc] at this
  have bw : Below w.heap.size w W0 := by rw [← hW0]; exact (by repeat (first | exact Below.refl _ _ | assumption | refine Below.alloc ?_ (by first | (simp; done) | (simp; omega) | omega) _ | refine Below.setCell ?_ (by first | (simp; done) | (simp; omega) | omega) _ | refine Below.drew ?_))
  have s1 := hsa.below bw
  have s2 := hsb.below bw
  have HW : Hid (((w.alloc (.cells #[.bool false, .slice A na ca] 26)).alloc (.cells #[.bool true, .slice B nb cb] 26)).alloc (.cells #[.bool false, .slice none 0 0] 26) = W0) := hW0
  clear hW0
  go_enter Try.func39, Try.ntmps39
  go_wp2_with (rw [HW.out]; go_at_call 62; refine (compare_sl s1 s2 (by omega) (by omega)).mono ?_; rintro e w1 ⟨rfl, hbc⟩; have e0 := b0.below hbc b0.lt; have e1 := b1.below hbc b1.lt; have e2 := b2.below hbc b2.lt; have x1 := (e0.cell 0).trans (b := some (Value.bool false)) rfl; have x2 := (e0.cell 1).trans (b := some (Value.slice A na ca)) rfl; have x3 := (e1.cell 0).trans (b := some (Value.bool true)) rfl; have x4 := (e1.cell 1).trans (b := some (Value.slice B nb cb)) rfl; have y1 := e0.frozen 0; have y2 := e0.frozen 1; have y3 := e1.frozen 0; have y4 := e1.frozen 1; have z0 := e0.lt; have z1 := e1.lt)
  have t1 := s1.below hbc
  have t2 := s2.below hbc
  have bv := bw.trans (hbc.mono bw.size)
  clear b0 b1 b2 s1 s2 bw x1 x2 x3 x4 y1 y2 y3 y4 z0 z1 HW
  obtain ⟨W1, rfl⟩ : ∃ W1, W1 = w1 := ⟨_, rfl⟩
  have b0 := e0
  have b1 := e1
  have b2 := e2
  have bw := bv
  have s1 := t1
  have s2 := t2
  clear t1 t2 e0 e1 e2 bv hbc
  have c1 : W1.cell? ⟨w.heap.size, 0, none⟩ = some (.bool false) := (b0.cell 0).trans rfl
  have c2 : W1.cell? ⟨w.heap.size, 1, none⟩ = some (.slice A na ca) := (b0.cell 1).trans rfl
  have c0 : W1.cell? ⟨w.heap.size + 1, 0, none⟩ = some (.bool true) := (b1.cell 0).trans rfl
  have c3 : W1.cell? ⟨w.heap.size + 1, 1, none⟩ = some (.slice B nb cb) := (b1.cell 1).trans rfl
  have c4 : W1.cell? ⟨w.heap.size + 2, 0, none⟩ = some (.bool false) := (b2.cell 0).trans rfl
  have c5 : W1.cell? ⟨w.heap.size + 2, 1, none⟩ = some (.slice none 0 0) := (b2.cell 1).trans rfl
  have fa := b0.frozen 0
  have fb := b0.frozen 1
  have fc := b1.frozen 0
  have fd := b1.frozen 1
  have f4 := b2.frozen 0
  have f5 := b2.frozen 1
  have l0 := b0.lt
  have l1 := b1.lt
  have l2 := b2.lt
  go_region_held3 (fun w' => w'.cell? ⟨w.heap.size, 0, none⟩ = some (.bool false) ∧ w'.cell? ⟨w.heap.size, 1, none⟩ = some (.slice A na ca) ∧ w'.cell? ⟨w.heap.size + 1, 1, none⟩ = some (.slice B nb cb))
    (first | exact ⟨c1, c2, c3⟩ | exact ⟨k1, k2, k3⟩ | exact ⟨m1, m2, m3⟩ | (refine ⟨?_, ?_, ?_⟩ <;> (simp [go_sem, m1, m2, m3]; done)))
    (first | (go_at_call 61; refine (subtract_sl (w := W1.drew) s1 s2 (by omega) (by omega) (by omega)).mono ?_; rintro e w1 ⟨v, rfl, hs, hbx⟩; have hb1 := below_of_drew hbx; clear hbx; have k1 := (hb1.cell (p := ⟨w.heap.size, 0, none⟩) l0).trans c1; have k2 := (hb1.cell (p := ⟨w.heap.size, 1, none⟩) l0).trans c2; have k3 := (hb1.cell (p := ⟨w.heap.size + 1, 1, none⟩) l1).trans c3; obtain ⟨_, _, A', c', rfl, _⟩ := id hs) | (go_at_call 54; refine (signed_any _ _ _ _ _).mono ?_; rintro e w2 ⟨rfl, hb2⟩; have m1 := (hb2.cell (p := ⟨w.heap.size, 0, none⟩) (Nat.lt_of_lt_of_le l0 hb1.size)).trans k1; have m2 := (hb2.cell (p := ⟨w.heap.size, 1, none⟩) (Nat.lt_of_lt_of_le l0 hb1.size)).trans k2; have m3 := (hb2.cell (p := ⟨w.heap.size + 1, 1, none⟩) (Nat.lt_of_lt_of_le l1 hb1.size)).trans k3; have d2 := (b2.below hb1 l2).below hb2 (Nat.lt_of_lt_of_le l2 hb1.size); have g4 := (d2.cell 0).trans (b := some (Value.bool false)) rfl; have g5 := (d2.cell 1).trans (b := some (Value.slice none 0 0)) rfl; have h4 := d2.frozen 0; have h5 := d2.frozen 1; have l4 := d2.lt))
  go_wp2
  have d4 := (d2.set_ 0 (.bool (false))).set_ 1 (.slice A' (digs (val la - val lb)).length c')
  have r0 := (d4.cell 0).trans (b := some (Value.bool (false))) rfl
  have r1 := (d4.cell 1).trans (b := some (Value.slice A' (digs (val la - val lb)).length c')) rfl
  exact bodyPost_ret (v := .agg #[.bool (false), .slice A' (digs (val la - val lb)).length c']) (by simp [results, Try.f39, go_sem, r0, r1]) rfl
    ⟨A', c', rfl, (hs.below hb2).store2 d2 _ _ _ _, ((bw.trans (hb1.mono bw.size)).trans (hb2.mono (Nat.le_trans bw.size hb1.size))).setCell (p := ⟨w.heap.size + 2, 0, none⟩) (by simp) _ |>.setCell (p := ⟨w.heap.size + 2, 1, none⟩) (by simp) _⟩

set_option maxRecDepth 100000 in
set_option maxHeartbeats 2000000 in
theorem sum_ps (la lb : List Nat) (A B : Option Addr) (na nb ca cb : Nat) (w : World) (hsa : Sl w (.slice A na ca) la) (hsb : Sl w (.slice B nb cb) lb) (ha : la.length ≤ 4000) (hb : lb.length ≤ 4000) (na' : Norm la) (nb' : Norm lb) (hle : val la < val lb) :
    Calls Try.prog 39 #[.agg #[.bool false, .slice A na ca], .agg #[.bool true, .slice B nb cb]] w fun e w' => ∃ A' c', e = .returned (.agg #[.bool (true && decide (0 < (digs (val lb - val la)).length)), .slice A' (digs (val lb - val la)).length c']) ∧ Sl w' (.slice A' (digs (val lb - val la)).length c') (digs (val lb - val la)) ∧ Below w.heap.size w w' := by
  have hcl : cmpL la lb < 0 := by rw [cmpL_eq na' nb']; unfold cmpN; rw [if_neg (by omega), if_pos hle]; omega
  obtain ⟨W0, hW0⟩ : ∃ W0, ((w.alloc (.cells #[.bool false, .slice A na ca] 26)).alloc (.cells #[.bool true, .slice B nb cb] 26)).alloc (.cells #[.bool false, .slice none 0 0] 26) = W0 := ⟨_, rfl⟩
  have b0 : Blk W0 w.heap.size 26 #[.bool false, .slice A na ca] := by rw [← hW0]; exact ((Blk.new w _ _).alloc _).alloc _
  have b1 : Blk W0 (w.heap.size + 1) 26 #[.bool true, .slice B nb cb] := by
    rw [← hW0]
    have := (Blk.new (w.alloc (.cells #[.bool false, .slice A na ca] 26)) 26 #[.bool true, .slice B nb cb]).alloc (.cells #[.bool false, .slice none 0 0] 26)
    rwa [World.size_alloc] at this
  have b2 : Blk W0 (w.heap.size + 2) 26 #[.bool false, .slice none 0 0] := by
    rw [← hW0]
    have := (Blk.new ((w.alloc (.cells #[.bool false, .slice A na ca] 26)).alloc (.cells #[.bool true, .slice B nb cb] 26)) 26 #[.bool false, .slice none 0 0])
    rwa [World.size_alloc, World.size_alloc] at this
  have bw : Below w.heap.size w W0 := by rw [← hW0]; exact (by repeat (first | exact Below.refl _ _ | assumption | refine Below.alloc ?_ (by first | (simp; done) | (simp; omega) | omega) _ | refine Below.setCell ?_ (by first | (simp; done) | (simp; omega) | omega) _ | refine Below.drew ?_))
  have s1 := hsa.below bw
  have s2 := hsb.below bw
  have HW : Hid (((w.alloc (.cells #[.bool false, .slice A na ca] 26)).alloc (.cells #[.bool true, .slice B nb cb] 26)).alloc (.cells #[.bool false, .slice none 0 0] 26) = W0) := hW0
  clear hW0
  go_enter Try.func39, Try.ntmps39
  go_wp2_with (rw [HW.out]; go_at_call 62; refine (compare_sl s1 s2 (by omega) (by omega)).mono ?_; rintro e w1 ⟨rfl, hbc⟩; have e0 := b0.below hbc b0.lt; have e1 := b1.below hbc b1.lt; have e2 := b2.below hbc b2.lt; have x1 := (e0.cell 0).trans (b := some (Value.bool false)) rfl; have x2 := (e0.cell 1).trans (b := some (Value.slice A na ca)) rfl; have x3 := (e1.cell 0).trans (b := some (Value.bool true)) rfl; have x4 := (e1.cell 1).trans (b := some (Value.slice B nb cb)) rfl; have y1 := e0.frozen 0; have y2 := e0.frozen 1; have y3 := e1.frozen 0; have y4 := e1.frozen 1; have z0 := e0.lt; have z1 := e1.lt)
  have t1 := s1.below hbc
  have t2 := s2.below hbc
  have bv := bw.trans (hbc.mono bw.size)
  clear b0 b1 b2 s1 s2 bw x1 x2 x3 x4 y1 y2 y3 y4 z0 z1 HW
  obtain ⟨W1, hW1⟩ : ∃ W1, (((w1.setCell ⟨w.heap.size, 0, none⟩ (.bool true)).setCell ⟨w.heap.size, 1, none⟩ (.slice B nb cb)).setCell ⟨w.heap.size + 1, 0, none⟩ (.bool false)).setCell ⟨w.heap.size + 1, 1, none⟩ (.slice A na ca) = W1 := ⟨_, rfl⟩
  have b0 : Blk W1 w.heap.size 26 #[.bool true, .slice B nb cb] := by rw [← hW1]; exact (((e0.set_ 0 (.bool true)).set_ 1 (.slice B nb cb)).far (p := ⟨w.heap.size + 1, 0, none⟩) (by simp) _).far (p := ⟨w.heap.size + 1, 1, none⟩) (by simp) _
  have b1 : Blk W1 (w.heap.size + 1) 26 #[.bool false, .slice A na ca] := by rw [← hW1]; exact (((e1.far (p := ⟨w.heap.size, 0, none⟩) (by simp) _).far (p := ⟨w.heap.size, 1, none⟩) (by simp) _).set_ 0 (.bool false)).set_ 1 (.slice A na ca)
  have b2 : Blk W1 (w.heap.size + 2) 26 #[.bool false, .slice none 0 0] := by rw [← hW1]; exact (((e2.far (p := ⟨w.heap.size, 0, none⟩) (by simp) _).far (p := ⟨w.heap.size, 1, none⟩) (by simp) _).far (p := ⟨w.heap.size + 1, 0, none⟩) (by simp) _).far (p := ⟨w.heap.size + 1, 1, none⟩) (by simp) _
  have bw : Below w.heap.size w W1 := by rw [← hW1]; exact (((bv.setCell (p := ⟨w.heap.size, 0, none⟩) (by simp) _).setCell (p := ⟨w.heap.size, 1, none⟩) (by simp) _).setCell (p := ⟨w.heap.size + 1, 0, none⟩) (by simp) _).setCell (p := ⟨w.heap.size + 1, 1, none⟩) (by simp) _
  have s1 : Sl W1 (.slice A na ca) la := by rw [← hW1]; exact (t1.store2 e0 _ _ _ _).store2 ((e1.far (p := ⟨w.heap.size, 0, none⟩) (by simp) _).far (p := ⟨w.heap.size, 1, none⟩) (by simp) _) _ _ _ _
  have s2 : Sl W1 (.slice B nb cb) lb := by rw [← hW1]; exact (t2.store2 e0 _ _ _ _).store2 ((e1.far (p := ⟨w.heap.size, 0, none⟩) (by simp) _).far (p := ⟨w.heap.size, 1, none⟩) (by simp) _) _ _ _ _
  rw [hW1]
  clear hW1 t1 t2 e0 e1 e2 bv hbc
  have c1 : W1.cell? ⟨w.heap.size, 0, none⟩ = some (.bool true) := (b0.cell 0).trans rfl
  have c2 : W1.cell? ⟨w.heap.size, 1, none⟩ = some (.slice B nb cb) := (b0.cell 1).trans rfl
  have c0 : W1.cell? ⟨w.heap.size + 1, 0, none⟩ = some (.bool false) := (b1.cell 0).trans rfl
  have c3 : W1.cell? ⟨w.heap.size + 1, 1, none⟩ = some (.slice A na ca) := (b1.cell 1).trans rfl
  have c4 : W1.cell? ⟨w.heap.size + 2, 0, none⟩ = some (.bool false) := (b2.cell 0).trans rfl
  have c5 : W1.cell? ⟨w.heap.size + 2, 1, none⟩ = some (.slice none 0 0) := (b2.cell 1).trans rfl
  have fa := b0.frozen 0
  have fb := b0.frozen 1
  have fc := b1.frozen 0
  have fd := b1.frozen 1
  have f4 := b2.frozen 0
  have f5 := b2.frozen 1
  have l0 := b0.lt
  have l1 := b1.lt
  have l2 := b2.lt
  go_region_held3 (fun w' => w'.cell? ⟨w.heap.size, 0, none⟩ = some (.bool true) ∧ w'.cell? ⟨w.heap.size, 1, none⟩ = some (.slice B nb cb) ∧ w'.cell? ⟨w.heap.size + 1, 1, none⟩ = some (.slice A na ca))
    (first | exact ⟨c1, c2, c3⟩ | exact ⟨k1, k2, k3⟩ | exact ⟨m1, m2, m3⟩ | (refine ⟨?_, ?_, ?_⟩ <;> (simp [go_sem, m1, m2, m3]; done)))
    (first | (go_at_call 61; refine (subtract_sl (w := W1.drew) s2 s1 (by omega) (by omega) (by omega)).mono ?_; rintro e w1 ⟨v, rfl, hs, hbx⟩; have hb1 := below_of_drew hbx; clear hbx; have k1 := (hb1.cell (p := ⟨w.heap.size, 0, none⟩) l0).trans c1; have k2 := (hb1.cell (p := ⟨w.heap.size, 1, none⟩) l0).trans c2; have k3 := (hb1.cell (p := ⟨w.heap.size + 1, 1, none⟩) l1).trans c3; obtain ⟨_, _, A', c', rfl, _⟩ := id hs) | (go_at_call 54; refine (signed_any _ _ _ _ _).mono ?_; rintro e w2 ⟨rfl, hb2⟩; have m1 := (hb2.cell (p := ⟨w.heap.size, 0, none⟩) (Nat.lt_of_lt_of_le l0 hb1.size)).trans k1; have m2 := (hb2.cell (p := ⟨w.heap.size, 1, none⟩) (Nat.lt_of_lt_of_le l0 hb1.size)).trans k2; have m3 := (hb2.cell (p := ⟨w.heap.size + 1, 1, none⟩) (Nat.lt_of_lt_of_le l1 hb1.size)).trans k3; have d2 := (b2.below hb1 l2).below hb2 (Nat.lt_of_lt_of_le l2 hb1.size); have g4 := (d2.cell 0).trans (b := some (Value.bool false)) rfl; have g5 := (d2.cell 1).trans (b := some (Value.slice none 0 0)) rfl; have h4 := d2.frozen 0; have h5 := d2.frozen 1; have l4 := d2.lt))
  go_wp2
  have d4 := (d2.set_ 0 (.bool (decide (0 < (digs (val lb - val la)).length)))).set_ 1 (.slice A' (digs (val lb - val la)).length c')
  have r0 := (d4.cell 0).trans (b := some (Value.bool (decide (0 < (digs (val lb - val la)).length)))) rfl
  have r1 := (d4.cell 1).trans (b := some (Value.slice A' (digs (val lb - val la)).length c')) rfl
  exact bodyPost_ret (v := .agg #[.bool (decide (0 < (digs (val lb - val la)).length)), .slice A' (digs (val lb - val la)).length c']) (by simp [results, Try.f39, go_sem, r0, r1]) rfl
    ⟨A', c', rfl, (hs.below hb2).store2 d2 _ _ _ _, ((bw.trans (hb1.mono bw.size)).trans (hb2.mono (Nat.le_trans bw.size hb1.size))).setCell (p := ⟨w.heap.size + 2, 0, none⟩) (by simp) _ |>.setCell (p := ⟨w.heap.size + 2, 1, none⟩) (by simp) _⟩

end Go.Proofs.Ytgnidjhfiagfnaa
