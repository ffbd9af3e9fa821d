/- The laws' small helpers: a sum, a product, a difference of numbers that are short enough. Conditions: the result has at most 1024 limbs. -/
import Derived.Test.YtgnidjhfiagfnaaXi
namespace Go.Proofs.Ytgnidjhfiagfnaa
open Go.RowKit

theorem op_product {x y : Bool} {la lb : List Nat} (ha : la.length ≤ 1024) (hb : lb.length ≤ 1024) : OpZ 41 x la y lb (zv x la * zv y lb) := by
  intro W va vb hA hB
  obtain ⟨A, ca, rfl, sa⟩ := hA
  obtain ⟨B, cb, rfl, sb⟩ := hB
  refine (product_any x y la lb A B _ _ ca cb W sa sb ha hb).mono ?_
  rintro e w' ⟨A', c', rfl, hs, hb1⟩
  have e1 : (zv x la * zv y lb).natAbs = val la * val lb := by
    rw [Int.natAbs_mul]
    unfold zv
    cases x <;> cases y <;> simp
  have e2 : ((!(x == y)) && decide (0 < (digs (val la * val lb)).length)) = decide (zv x la * zv y lb < 0) := by
    rw [sum_pos_sign]
    congr 1
    unfold zv
    cases x <;> cases y <;> simp [Int.natCast_mul, Int.mul_neg, Int.neg_mul]
  refine ⟨_, rfl, ⟨A', c', ?_, ?_⟩, hb1⟩
  · rw [e1, e2]
  · rw [e1]; exact hs

theorem mul_wh {w : World} {va vb : Value} {x y : Bool} {la lb : List Nat} (hA : Wh w va x la) (hB : Wh w vb y lb) :
    Calls Try.prog 15 #[va, vb] w fun e w' => ∃ v, e = .returned (.tuple #[v, .int .i64 (code (validB x la && validB y lb) (zv x la * zv y lb))]) ∧ WhZ w' v (resz (validB x la && validB y lb) (zv x la * zv y lb)) ∧ Below w.heap.size w w' := by
  obtain ⟨A, ca, rfl, sa⟩ := hA
  obtain ⟨B, cb, rfl, sb⟩ := hB
  refine mulF_any _ (fun hx hy => ?_) sa sb rfl rfl
  have h1 := valid_norm sa.1 hx
  have h2 := valid_norm sb.1 hy
  exact op_product h1.2.1 h2.2.1

/-- It has at most k limbs. -/
def Lz (k : Nat) (z : Int) : Prop := (digs z.natAbs).length ≤ k
theorem lz_iff {k : Nat} {z : Int} : Lz k z ↔ z.natAbs < 65536 ^ k := ⟨lt_of_digs_length, digs_length⟩
theorem Lz.mono {j k : Nat} {z : Int} (h : Lz j z) (hk : j ≤ k) : Lz k z := Nat.le_trans h hk
theorem Lz.neg {k : Nat} {z : Int} (h : Lz k z) : Lz k (-z) := by unfold Lz; rw [Int.natAbs_neg]; exact h
theorem Lz.add {k : Nat} {y z : Int} (h : Lz k y) (h' : Lz k z) : Lz (k + 1) (y + z) := by
  rw [lz_iff] at *
  have := Int.natAbs_add_le y z
  rw [Nat.pow_succ]
  omega
theorem Lz.sub {k : Nat} {y z : Int} (h : Lz k y) (h' : Lz k z) : Lz (k + 1) (y - z) := by
  rw [Int.sub_eq_add_neg]; exact h.add h'.neg
theorem Lz.mul {j k : Nat} {y z : Int} (h : Lz j y) (h' : Lz k z) : Lz (j + k) (y * z) := by
  rw [lz_iff] at *
  rw [Int.natAbs_mul, Nat.pow_add]
  have h1 : y.natAbs * z.natAbs ≤ y.natAbs * 65536 ^ k := Nat.mul_le_mul_left _ (by omega)
  have h2 : y.natAbs * 65536 ^ k < 65536 ^ j * 65536 ^ k := Nat.mul_lt_mul_of_pos_right h (Nat.pow_pos (by omega))
  omega
theorem Lz.ok {k : Nat} {z : Int} (h : Lz k z) (hk : k ≤ 1024) : validB (decide (z < 0)) (digs z.natAbs) = true := valid_z (Nat.le_trans h hk)
theorem code_ok {z : Int} (h : Lz 1024 z) : code true z = 0 := by unfold code; rw [if_pos rfl, if_pos (show (digs z.natAbs).length ≤ 1024 from h)]
theorem resz_ok {z : Int} (h : Lz 1024 z) : resz true z = z := by unfold resz; rw [if_pos rfl, if_pos (show (digs z.natAbs).length ≤ 1024 from h)]

theorem add_z2 {w : World} {va vb : Value} {y z : Int} (hA : WhZ w va y) (hB : WhZ w vb z) (hy : Lz 1024 y) (hz : Lz 1024 z) (h : Lz 1024 (y + z)) :
    Calls Try.prog 13 #[va, vb] w fun e w' => ∃ v, e = .returned (.tuple #[v, .int .i64 0]) ∧ WhZ w' v (y + z) ∧ Below w.heap.size w w' := by
  have := add_wh hA hB
  rw [hy.ok (Nat.le_refl _), hz.ok (Nat.le_refl _), zv_whz, zv_whz] at this
  rw [Bool.and_self, code_ok h, resz_ok h] at this
  exact this

set_option maxRecDepth 100000 in
set_option maxHeartbeats 2000000 in
theorem sumv_any {x y : Bool} {A B : Option Addr} {na nb ca cb : Nat} {z : Int} {w : World} (H : Hid (∀ W, Below w.heap.size w W → Calls Try.prog 13 #[.agg #[.bool x, .slice A na ca], .agg #[.bool y, .slice B nb cb]] W fun e w' => ∃ v, e = .returned (.tuple #[v, .int .i64 0]) ∧ WhZ w' v z ∧ Below W.heap.size W w')) :
    Calls Try.prog 31 #[.agg #[.bool x, .slice A na ca], .agg #[.bool y, .slice B nb cb]] w fun e w' => ∃ v, e = .returned v ∧ WhZ w' v z ∧ Below w.heap.size w w' := by
  obtain ⟨W0, hW0⟩ : ∃ W0, ((w.alloc (.cells #[.bool x, .slice A na ca] 26)).alloc (.cells #[.bool y, .slice B nb cb] 26)).alloc (.cells #[.bool false, .slice none 0 0] 26) = W0 := ⟨_, rfl⟩
  have b0 : Blk W0 w.heap.size 26 #[.bool x, .slice A na ca] := by rw [← hW0]; exact ((Blk.new w _ _).alloc _).alloc _
  have b1 : Blk W0 (w.heap.size + 1) 26 #[.bool y, .slice B nb cb] := by
    rw [← hW0]
    have := (Blk.new (w.alloc (.cells #[.bool x, .slice A na ca] 26)) 26 #[.bool y, .slice B nb cb]).alloc (.cells #[.bool false, .slice none 0 0] 26)
    rwa [World.size_alloc] at this
  have b2 : Blk W0 (w.heap.size + 2) 26 #[.bool false, .slice none 0 0] := by
    rw [← hW0]
    have := (Blk.new ((w.alloc (.cells #[.bool x, .slice A na ca] 26)).alloc (.cells #[.bool y, .slice B nb cb] 26)) 26 #[.bool false, .slice none 0 0])
    rwa [World.size_alloc, World.size_alloc] at this
  have bw : Below w.heap.size w W0 := by rw [← hW0]; exact (by repeat (first | exact Below.refl _ _ | assumption | refine Below.alloc ?_ (by first | (simp; done) | (simp; omega) | omega) _ | refine Below.setCell ?_ (by first | (simp; done) | (simp; omega) | omega) _ | refine Below.drew ?_))
  have HW : Hid (((w.alloc (.cells #[.bool x, .slice A na ca] 26)).alloc (.cells #[.bool y, .slice B nb cb] 26)).alloc (.cells #[.bool false, .slice none 0 0] 26) = W0) := hW0
  clear hW0
  have l2 := b2.lt
  go_enter Try.func31, Try.ntmps31
  go_wp2_with (rw [HW.out]; go_at_call 13; refine (H.out _ bw).mono ?_; clear H; rintro e w1 ⟨v, rfl, hz, hb1⟩; obtain ⟨n', A', c', Hn', rfl, hs⟩ := whz_len hz; have d2 := (b2.below hb1 l2).alloc (.cells #[.bool (decide (z < 0)), .slice A' n' c'] 26); have g4 := (d2.cell 0).trans (b := some (Value.bool false)) rfl; have g5 := (d2.cell 1).trans (b := some (Value.slice none 0 0)) rfl; have h4 := d2.frozen 0; have h5 := d2.frozen 1; have l4 := d2.lt)
  have d4 := (d2.set_ 0 (.bool (decide (z < 0)))).set_ 1 (.slice A' n' c')
  have r0 := (d4.cell 0).trans (b := some (Value.bool (decide (z < 0)))) rfl
  have r1 := (d4.cell 1).trans (b := some (Value.slice A' n' c')) rfl
  have ba : Below w1.heap.size w1 (w1.alloc (.cells #[.bool (decide (z < 0)), .slice A' n' c'] 26)) := (Below.refl _ _).alloc (Nat.le_refl _) _
  have s5 := (hs.below ba).store2 d2 (decide (z < 0)) A' n' c'
  exact bodyPost_ret (v := .agg #[.bool (decide (z < 0)), .slice A' n' c']) (by simp [results, Try.f31, go_sem, r0, r1]) rfl
    ⟨_, rfl, ⟨A', c', by rw [Hn'.out], by rw [Hn'.out]; exact s5⟩, (((bw.trans (hb1.mono bw.size)).trans (ba.mono (Nat.le_trans bw.size hb1.size))).setCell (p := ⟨w.heap.size + 2, 0, none⟩) (by simp) _ |>.setCell (p := ⟨w.heap.size + 2, 1, none⟩) (by simp) _)⟩

theorem sumv {w : World} {va vb : Value} {y z : Int} (hA : WhZ w va y) (hB : WhZ w vb z) (hy : Lz 1024 y) (hz : Lz 1024 z) (h : Lz 1024 (y + z)) :
    Calls Try.prog 31 #[va, vb] w fun e w' => ∃ v, e = .returned v ∧ WhZ w' v (y + z) ∧ Below w.heap.size w w' := by
  obtain ⟨A, ca, rfl, sa⟩ := id hA
  obtain ⟨B, cb, rfl, sb⟩ := id hB
  exact sumv_any (fun W hb => add_z2 (hA.below hb) (hB.below hb) hy hz h)

theorem mul_z2 {w : World} {va vb : Value} {y z : Int} (hA : WhZ w va y) (hB : WhZ w vb z) (hy : Lz 1024 y) (hz : Lz 1024 z) (h : Lz 1024 (y * z)) :
    Calls Try.prog 15 #[va, vb] w fun e w' => ∃ v, e = .returned (.tuple #[v, .int .i64 0]) ∧ WhZ w' v (y * z) ∧ Below w.heap.size w w' := by
  have := mul_wh hA hB
  rw [hy.ok (Nat.le_refl _), hz.ok (Nat.le_refl _), zv_whz, zv_whz] at this
  rw [Bool.and_self, code_ok h, resz_ok h] at this
  exact this

set_option maxRecDepth 100000 in
set_option maxHeartbeats 2000000 in
theorem prodv_any {x y : Bool} {A B : Option Addr} {na nb ca cb : Nat} {z : Int} {w : World} (H : Hid (∀ W, Below w.heap.size w W → Calls Try.prog 15 #[.agg #[.bool x, .slice A na ca], .agg #[.bool y, .slice B nb cb]] W fun e w' => ∃ v, e = .returned (.tuple #[v, .int .i64 0]) ∧ WhZ w' v z ∧ Below W.heap.size W w')) :
    Calls Try.prog 32 #[.agg #[.bool x, .slice A na ca], .agg #[.bool y, .slice B nb cb]] w fun e w' => ∃ v, e = .returned v ∧ WhZ w' v z ∧ Below w.heap.size w w' := by
  obtain ⟨W0, hW0⟩ : ∃ W0, ((w.alloc (.cells #[.bool x, .slice A na ca] 26)).alloc (.cells #[.bool y, .slice B nb cb] 26)).alloc (.cells #[.bool false, .slice none 0 0] 26) = W0 := ⟨_, rfl⟩
  have b0 : Blk W0 w.heap.size 26 #[.bool x, .slice A na ca] := by rw [← hW0]; exact ((Blk.new w _ _).alloc _).alloc _
  have b1 : Blk W0 (w.heap.size + 1) 26 #[.bool y, .slice B nb cb] := by
    rw [← hW0]
    have := (Blk.new (w.alloc (.cells #[.bool x, .slice A na ca] 26)) 26 #[.bool y, .slice B nb cb]).alloc (.cells #[.bool false, .slice none 0 0] 26)
    rwa [World.size_alloc] at this
  have b2 : Blk W0 (w.heap.size + 2) 26 #[.bool false, .slice none 0 0] := by
    rw [← hW0]
    have := (Blk.new ((w.alloc (.cells #[.bool x, .slice A na ca] 26)).alloc (.cells #[.bool y, .slice B nb cb] 26)) 26 #[.bool false, .slice none 0 0])
    rwa [World.size_alloc, World.size_alloc] at this
  have bw : Below w.heap.size w W0 := by rw [← hW0]; exact (by repeat (first | exact Below.refl _ _ | assumption | refine Below.alloc ?_ (by first | (simp; done) | (simp; omega) | omega) _ | refine Below.setCell ?_ (by first | (simp; done) | (simp; omega) | omega) _ | refine Below.drew ?_))
  have HW : Hid (((w.alloc (.cells #[.bool x, .slice A na ca] 26)).alloc (.cells #[.bool y, .slice B nb cb] 26)).alloc (.cells #[.bool false, .slice none 0 0] 26) = W0) := hW0
  clear hW0
  have l2 := b2.lt
  go_enter Try.func32, Try.ntmps32
  go_wp2_with (rw [HW.out]; go_at_call 15; refine (H.out _ bw).mono ?_; clear H; rintro e w1 ⟨v, rfl, hz, hb1⟩; obtain ⟨n', A', c', Hn', rfl, hs⟩ := whz_len hz; have d2 := (b2.below hb1 l2).alloc (.cells #[.bool (decide (z < 0)), .slice A' n' c'] 26); have g4 := (d2.cell 0).trans (b := some (Value.bool false)) rfl; have g5 := (d2.cell 1).trans (b := some (Value.slice none 0 0)) rfl; have h4 := d2.frozen 0; have h5 := d2.frozen 1; have l4 := d2.lt)
  have d4 := (d2.set_ 0 (.bool (decide (z < 0)))).set_ 1 (.slice A' n' c')
  have r0 := (d4.cell 0).trans (b := some (Value.bool (decide (z < 0)))) rfl
  have r1 := (d4.cell 1).trans (b := some (Value.slice A' n' c')) rfl
  have ba : Below w1.heap.size w1 (w1.alloc (.cells #[.bool (decide (z < 0)), .slice A' n' c'] 26)) := (Below.refl _ _).alloc (Nat.le_refl _) _
  have s5 := (hs.below ba).store2 d2 (decide (z < 0)) A' n' c'
  exact bodyPost_ret (v := .agg #[.bool (decide (z < 0)), .slice A' n' c']) (by simp [results, Try.f32, go_sem, r0, r1]) rfl
    ⟨_, rfl, ⟨A', c', by rw [Hn'.out], by rw [Hn'.out]; exact s5⟩, (((bw.trans (hb1.mono bw.size)).trans (ba.mono (Nat.le_trans bw.size hb1.size))).setCell (p := ⟨w.heap.size + 2, 0, none⟩) (by simp) _ |>.setCell (p := ⟨w.heap.size + 2, 1, none⟩) (by simp) _)⟩

theorem prodv {w : World} {va vb : Value} {y z : Int} (hA : WhZ w va y) (hB : WhZ w vb z) (hy : Lz 1024 y) (hz : Lz 1024 z) (h : Lz 1024 (y * z)) :
    Calls Try.prog 32 #[va, vb] w fun e w' => ∃ v, e = .returned v ∧ WhZ w' v (y * z) ∧ Below w.heap.size w w' := by
  obtain ⟨A, ca, rfl, sa⟩ := id hA
  obtain ⟨B, cb, rfl, sb⟩ := id hB
  exact prodv_any (fun W hb => mul_z2 (hA.below hb) (hB.below hb) hy hz h)

theorem sub_z2 {w : World} {va vb : Value} {y z : Int} (hA : WhZ w va y) (hB : WhZ w vb z) (hy : Lz 1024 y) (hz : Lz 1024 z) (h : Lz 1024 (y - z)) :
    Calls Try.prog 14 #[va, vb] w fun e w' => ∃ v, e = .returned (.tuple #[v, .int .i64 0]) ∧ WhZ w' v (y - z) ∧ Below w.heap.size w w' := by
  have := sub_wh hA hB
  rw [hy.ok (Nat.le_refl _), hz.ok (Nat.le_refl _), zv_whz, zv_whz] at this
  rw [Bool.and_self, code_ok h, resz_ok h] at this
  exact this

set_option maxRecDepth 100000 in
set_option maxHeartbeats 2000000 in
theorem lessv_any {x y : Bool} {A B : Option Addr} {na nb ca cb : Nat} {z : Int} {w : World} (H : Hid (∀ W, Below w.heap.size w W → Calls Try.prog 14 #[.agg #[.bool x, .slice A na ca], .agg #[.bool y, .slice B nb cb]] W fun e w' => ∃ v, e = .returned (.tuple #[v, .int .i64 0]) ∧ WhZ w' v z ∧ Below W.heap.size W w')) :
    Calls Try.prog 34 #[.agg #[.bool x, .slice A na ca], .agg #[.bool y, .slice B nb cb]] w fun e w' => ∃ v, e = .returned v ∧ WhZ w' v z ∧ Below w.heap.size w w' := by
  obtain ⟨W0, hW0⟩ : ∃ W0, ((w.alloc (.cells #[.bool x, .slice A na ca] 26)).alloc (.cells #[.bool y, .slice B nb cb] 26)).alloc (.cells #[.bool false, .slice none 0 0] 26) = W0 := ⟨_, rfl⟩
  have b0 : Blk W0 w.heap.size 26 #[.bool x, .slice A na ca] := by rw [← hW0]; exact ((Blk.new w _ _).alloc _).alloc _
  have b1 : Blk W0 (w.heap.size + 1) 26 #[.bool y, .slice B nb cb] := by
    rw [← hW0]
    have := (Blk.new (w.alloc (.cells #[.bool x, .slice A na ca] 26)) 26 #[.bool y, .slice B nb cb]).alloc (.cells #[.bool false, .slice none 0 0] 26)
    rwa [World.size_alloc] at this
  have b2 : Blk W0 (w.heap.size + 2) 26 #[.bool false, .slice none 0 0] := by
    rw [← hW0]
    have := (Blk.new ((w.alloc (.cells #[.bool x, .slice A na ca] 26)).alloc (.cells #[.bool y, .slice B nb cb] 26)) 26 #[.bool false, .slice none 0 0])
    rwa [World.size_alloc, World.size_alloc] at this
  have bw : Below w.heap.size w W0 := by rw [← hW0]; exact (by repeat (first | exact Below.refl _ _ | assumption | refine Below.alloc ?_ (by first | (simp; done) | (simp; omega) | omega) _ | refine Below.setCell ?_ (by first | (simp; done) | (simp; omega) | omega) _ | refine Below.drew ?_))
  have HW : Hid (((w.alloc (.cells #[.bool x, .slice A na ca] 26)).alloc (.cells #[.bool y, .slice B nb cb] 26)).alloc (.cells #[.bool false, .slice none 0 0] 26) = W0) := hW0
  clear hW0
  have l2 := b2.lt
  go_enter Try.func34, Try.ntmps34
  go_wp2_with (rw [HW.out]; go_at_call 14; refine (H.out _ bw).mono ?_; clear H; rintro e w1 ⟨v, rfl, hz, hb1⟩; obtain ⟨n', A', c', Hn', rfl, hs⟩ := whz_len hz; have d2 := (b2.below hb1 l2).alloc (.cells #[.bool (decide (z < 0)), .slice A' n' c'] 26); have g4 := (d2.cell 0).trans (b := some (Value.bool false)) rfl; have g5 := (d2.cell 1).trans (b := some (Value.slice none 0 0)) rfl; have h4 := d2.frozen 0; have h5 := d2.frozen 1; have l4 := d2.lt)
  have d4 := (d2.set_ 0 (.bool (decide (z < 0)))).set_ 1 (.slice A' n' c')
  have r0 := (d4.cell 0).trans (b := some (Value.bool (decide (z < 0)))) rfl
  have r1 := (d4.cell 1).trans (b := some (Value.slice A' n' c')) rfl
  have ba : Below w1.heap.size w1 (w1.alloc (.cells #[.bool (decide (z < 0)), .slice A' n' c'] 26)) := (Below.refl _ _).alloc (Nat.le_refl _) _
  have s5 := (hs.below ba).store2 d2 (decide (z < 0)) A' n' c'
  exact bodyPost_ret (v := .agg #[.bool (decide (z < 0)), .slice A' n' c']) (by simp [results, Try.f34, go_sem, r0, r1]) rfl
    ⟨_, rfl, ⟨A', c', by rw [Hn'.out], by rw [Hn'.out]; exact s5⟩, (((bw.trans (hb1.mono bw.size)).trans (ba.mono (Nat.le_trans bw.size hb1.size))).setCell (p := ⟨w.heap.size + 2, 0, none⟩) (by simp) _ |>.setCell (p := ⟨w.heap.size + 2, 1, none⟩) (by simp) _)⟩

theorem lessv {w : World} {va vb : Value} {y z : Int} (hA : WhZ w va y) (hB : WhZ w vb z) (hy : Lz 1024 y) (hz : Lz 1024 z) (h : Lz 1024 (y - z)) :
    Calls Try.prog 34 #[va, vb] w fun e w' => ∃ v, e = .returned v ∧ WhZ w' v (y - z) ∧ Below w.heap.size w w' := by
  obtain ⟨A, ca, rfl, sa⟩ := id hA
  obtain ⟨B, cb, rfl, sb⟩ := id hB
  exact lessv_any (fun W hb => sub_z2 (hA.below hb) (hB.below hb) hy hz h)

end Go.Proofs.Ytgnidjhfiagfnaa
