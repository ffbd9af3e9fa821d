/- The order of numbers. Conditions: at most 1024 limbs each. -/
import Derived.Test.YtgnidjhfiagfnaaXj
namespace Go.Proofs.Ytgnidjhfiagfnaa
open Go.RowKit

set_option maxRecDepth 100000 in
set_option maxHeartbeats 2000000 in
theorem cmp_pp {la lb : List Nat} {A B : Option Addr} {na nb ca cb : Nat} {w : World} (hsa : Sl w (.slice A na ca) la) (hsb : Sl w (.slice B nb cb) lb) (hna : Hid (la.length = na)) (hnb : Hid (lb.length = nb)) (hv : (validB false la && validB false lb) = true) (hla : la.length ≤ 1024) (hlb : lb.length ≤ 1024) :
    Calls Try.prog 33 #[.agg #[.bool false, .slice A na ca], .agg #[.bool false, .slice B nb cb]] w fun e w' => e = .returned (.int .i64 (cmpL la lb)) ∧ Below w.heap.size w w' := by
  obtain ⟨W0, hW0⟩ : ∃ W0, ((w.alloc (.cells #[.bool false, .slice A na ca] 26)).alloc (.cells #[.bool false, .slice B nb cb] 26)).alloc (.cells #[.bool false, .slice A na ca, .bool false, .slice B nb cb] 26) = W0 := ⟨_, rfl⟩
  have b0 : Blk W0 w.heap.size 26 #[.bool false, .slice A na ca] := by rw [← hW0]; exact ((Blk.new w _ _).alloc _).alloc _
  have b1 : Blk W0 (w.heap.size + 1) 26 #[.bool false, .slice B nb cb] := by
    rw [← hW0]
    have := (Blk.new (w.alloc (.cells #[.bool false, .slice A na ca] 26)) 26 #[.bool false, .slice B nb cb]).alloc (.cells #[.bool false, .slice A na ca, .bool false, .slice B nb cb] 26)
    rwa [World.size_alloc] at this
  have b4 : Blk W0 (w.heap.size + 1 + 1) 26 #[.bool false, .slice A na ca, .bool false, .slice B nb cb] := by
    rw [← hW0]
    have := (Blk.new ((w.alloc (.cells #[.bool false, .slice A na ca] 26)).alloc (.cells #[.bool false, .slice B nb cb] 26)) 26 #[.bool false, .slice A na ca, .bool false, .slice B nb cb])
    rwa [World.size_alloc, World.size_alloc] at this
  have bw : Below w.heap.size w W0 := by rw [← hW0]; exact (by repeat (first | exact Below.refl _ _ | assumption | refine Below.alloc ?_ (by first | (simp; done) | (simp; omega) | omega) _ | refine Below.setCell ?_ (by first | (simp; done) | (simp; omega) | omega) _ | refine Below.drew ?_))
  have HW : Hid (((w.alloc (.cells #[.bool false, .slice A na ca] 26)).alloc (.cells #[.bool false, .slice B nb cb] 26)).alloc (.cells #[.bool false, .slice A na ca, .bool false, .slice B nb cb] 26) = W0) := hW0
  clear hW0
  have sa := hsa.below bw
  have sb := hsb.below bw
  have hav := allValid2 sa hna sb hnb b4
  rw [hv] at hav
  have HJ : Hid (Calls Try.prog 48 #[.slice (some ⟨w.heap.size + 1 + 1, 0, none⟩) 2 2] W0 fun e w' => e = .returned (.bool true) ∧ Below W0.heap.size W0 w') := hav
  have l0 := b0.lt
  have l1 := b1.lt
  clear hav hv hsa hsb
  go_enter Try.func33, Try.ntmps33
  go_wp2_with (first | (rw [HW.out]; go_at_call 48; refine HJ.out.mono ?_; rintro e w1 ⟨rfl, hb1⟩; have d0 := b0.below hb1 l0; have d1 := b1.below hb1 l1; have g0 := (d0.cell 0).trans (b := some (Value.bool false)) rfl; have g1 := (d0.cell 1).trans (b := some (Value.slice A na ca)) rfl; have g2 := (d1.cell 0).trans (b := some (Value.bool false)) rfl; have g3 := (d1.cell 1).trans (b := some (Value.slice B nb cb)) rfl) | (go_at_call 62; refine (compare_sl (sa.below hb1) (sb.below hb1) (by omega) (by omega)).mono ?_; rintro e w2 ⟨rfl, hb2⟩))
  go_ret
  exact ⟨rfl, (bw.trans (hb1.mono bw.size)).trans (hb2.mono (Nat.le_trans bw.size hb1.size))⟩

set_option maxRecDepth 100000 in
set_option maxHeartbeats 2000000 in
theorem cmp_nn {la lb : List Nat} {A B : Option Addr} {na nb ca cb : Nat} {w : World} (hsa : Sl w (.slice A na ca) la) (hsb : Sl w (.slice B nb cb) lb) (hna : Hid (la.length = na)) (hnb : Hid (lb.length = nb)) (hv : (validB true la && validB true lb) = true) (hla : la.length ≤ 1024) (hlb : lb.length ≤ 1024) :
    Calls Try.prog 33 #[.agg #[.bool true, .slice A na ca], .agg #[.bool true, .slice B nb cb]] w fun e w' => e = .returned (.int .i64 (cmpL lb la)) ∧ Below w.heap.size w w' := by
  obtain ⟨W0, hW0⟩ : ∃ W0, ((w.alloc (.cells #[.bool true, .slice A na ca] 26)).alloc (.cells #[.bool true, .slice B nb cb] 26)).alloc (.cells #[.bool true, .slice A na ca, .bool true, .slice B nb cb] 26) = W0 := ⟨_, rfl⟩
  have b0 : Blk W0 w.heap.size 26 #[.bool true, .slice A na ca] := by rw [← hW0]; exact ((Blk.new w _ _).alloc _).alloc _
  have b1 : Blk W0 (w.heap.size + 1) 26 #[.bool true, .slice B nb cb] := by
    rw [← hW0]
    have := (Blk.new (w.alloc (.cells #[.bool true, .slice A na ca] 26)) 26 #[.bool true, .slice B nb cb]).alloc (.cells #[.bool true, .slice A na ca, .bool true, .slice B nb cb] 26)
    rwa [World.size_alloc] at this
  have b4 : Blk W0 (w.heap.size + 1 + 1) 26 #[.bool true, .slice A na ca, .bool true, .slice B nb cb] := by
    rw [← hW0]
    have := (Blk.new ((w.alloc (.cells #[.bool true, .slice A na ca] 26)).alloc (.cells #[.bool true, .slice B nb cb] 26)) 26 #[.bool true, .slice A na ca, .bool true, .slice B nb cb])
    rwa [World.size_alloc, World.size_alloc] at this
  have bw : Below w.heap.size w W0 := by rw [← hW0]; exact (by repeat (first | exact Below.refl _ _ | assumption | refine Below.alloc ?_ (by first | (simp; done) | (simp; omega) | omega) _ | refine Below.setCell ?_ (by first | (simp; done) | (simp; omega) | omega) _ | refine Below.drew ?_))
  have HW : Hid (((w.alloc (.cells #[.bool true, .slice A na ca] 26)).alloc (.cells #[.bool true, .slice B nb cb] 26)).alloc (.cells #[.bool true, .slice A na ca, .bool true, .slice B nb cb] 26) = W0) := hW0
  clear hW0
  have sa := hsa.below bw
  have sb := hsb.below bw
  have hav := allValid2 sa hna sb hnb b4
  rw [hv] at hav
  have HJ : Hid (Calls Try.prog 48 #[.slice (some ⟨w.heap.size + 1 + 1, 0, none⟩) 2 2] W0 fun e w' => e = .returned (.bool true) ∧ Below W0.heap.size W0 w') := hav
  have l0 := b0.lt
  have l1 := b1.lt
  clear hav hv hsa hsb
  go_enter Try.func33, Try.ntmps33
  go_wp2_with (first | (rw [HW.out]; go_at_call 48; refine HJ.out.mono ?_; rintro e w1 ⟨rfl, hb1⟩; have d0 := b0.below hb1 l0; have d1 := b1.below hb1 l1; have g0 := (d0.cell 0).trans (b := some (Value.bool true)) rfl; have g1 := (d0.cell 1).trans (b := some (Value.slice A na ca)) rfl; have g2 := (d1.cell 0).trans (b := some (Value.bool true)) rfl; have g3 := (d1.cell 1).trans (b := some (Value.slice B nb cb)) rfl) | (go_at_call 62; refine (compare_sl (sb.below hb1) (sa.below hb1) (by omega) (by omega)).mono ?_; rintro e w2 ⟨rfl, hb2⟩))
  go_ret
  exact ⟨rfl, (bw.trans (hb1.mono bw.size)).trans (hb2.mono (Nat.le_trans bw.size hb1.size))⟩

set_option maxRecDepth 100000 in
set_option maxHeartbeats 2000000 in
theorem cmp_np {la lb : List Nat} {A B : Option Addr} {na nb ca cb : Nat} {w : World} (hsa : Sl w (.slice A na ca) la) (hsb : Sl w (.slice B nb cb) lb) (hna : Hid (la.length = na)) (hnb : Hid (lb.length = nb)) (hv : (validB true la && validB false lb) = true) (_hla : la.length ≤ 1024) (_hlb : lb.length ≤ 1024) :
    Calls Try.prog 33 #[.agg #[.bool true, .slice A na ca], .agg #[.bool false, .slice B nb cb]] w fun e w' => e = .returned (.int .i64 (-1)) ∧ Below w.heap.size w w' := by
  obtain ⟨W0, hW0⟩ : ∃ W0, ((w.alloc (.cells #[.bool true, .slice A na ca] 26)).alloc (.cells #[.bool false, .slice B nb cb] 26)).alloc (.cells #[.bool true, .slice A na ca, .bool false, .slice B nb cb] 26) = W0 := ⟨_, rfl⟩
  have b0 : Blk W0 w.heap.size 26 #[.bool true, .slice A na ca] := by rw [← hW0]; exact ((Blk.new w _ _).alloc _).alloc _
  have b1 : Blk W0 (w.heap.size + 1) 26 #[.bool false, .slice B nb cb] := by
    rw [← hW0]
    have := (Blk.new (w.alloc (.cells #[.bool true, .slice A na ca] 26)) 26 #[.bool false, .slice B nb cb]).alloc (.cells #[.bool true, .slice A na ca, .bool false, .slice B nb cb] 26)
    rwa [World.size_alloc] at this
  have b4 : Blk W0 (w.heap.size + 1 + 1) 26 #[.bool true, .slice A na ca, .bool false, .slice B nb cb] := by
    rw [← hW0]
    have := (Blk.new ((w.alloc (.cells #[.bool true, .slice A na ca] 26)).alloc (.cells #[.bool false, .slice B nb cb] 26)) 26 #[.bool true, .slice A na ca, .bool false, .slice B nb cb])
    rwa [World.size_alloc, World.size_alloc] at this
  have bw : Below w.heap.size w W0 := by rw [← hW0]; exact (by repeat (first | exact Below.refl _ _ | assumption | refine Below.alloc ?_ (by first | (simp; done) | (simp; omega) | omega) _ | refine Below.setCell ?_ (by first | (simp; done) | (simp; omega) | omega) _ | refine Below.drew ?_))
  have HW : Hid (((w.alloc (.cells #[.bool true, .slice A na ca] 26)).alloc (.cells #[.bool false, .slice B nb cb] 26)).alloc (.cells #[.bool true, .slice A na ca, .bool false, .slice B nb cb] 26) = W0) := hW0
  clear hW0
  have sa := hsa.below bw
  have sb := hsb.below bw
  have hav := allValid2 sa hna sb hnb b4
  rw [hv] at hav
  have HJ : Hid (Calls Try.prog 48 #[.slice (some ⟨w.heap.size + 1 + 1, 0, none⟩) 2 2] W0 fun e w' => e = .returned (.bool true) ∧ Below W0.heap.size W0 w') := hav
  have l0 := b0.lt
  have l1 := b1.lt
  clear hav hv hsa hsb
  go_enter Try.func33, Try.ntmps33
  go_wp2_with (first | (rw [HW.out]; go_at_call 48; refine HJ.out.mono ?_; rintro e w1 ⟨rfl, hb1⟩; have d0 := b0.below hb1 l0; have d1 := b1.below hb1 l1; have g0 := (d0.cell 0).trans (b := some (Value.bool true)) rfl; have g1 := (d0.cell 1).trans (b := some (Value.slice A na ca)) rfl; have g2 := (d1.cell 0).trans (b := some (Value.bool false)) rfl; have g3 := (d1.cell 1).trans (b := some (Value.slice B nb cb)) rfl) )
  go_ret
  exact ⟨rfl, bw.trans (hb1.mono bw.size)⟩

set_option maxRecDepth 100000 in
set_option maxHeartbeats 2000000 in
theorem cmp_pn {la lb : List Nat} {A B : Option Addr} {na nb ca cb : Nat} {w : World} (hsa : Sl w (.slice A na ca) la) (hsb : Sl w (.slice B nb cb) lb) (hna : Hid (la.length = na)) (hnb : Hid (lb.length = nb)) (hv : (validB false la && validB true lb) = true) (_hla : la.length ≤ 1024) (_hlb : lb.length ≤ 1024) :
    Calls Try.prog 33 #[.agg #[.bool false, .slice A na ca], .agg #[.bool true, .slice B nb cb]] w fun e w' => e = .returned (.int .i64 (1)) ∧ Below w.heap.size w w' := by
  obtain ⟨W0, hW0⟩ : ∃ W0, ((w.alloc (.cells #[.bool false, .slice A na ca] 26)).alloc (.cells #[.bool true, .slice B nb cb] 26)).alloc (.cells #[.bool false, .slice A na ca, .bool true, .slice B nb cb] 26) = W0 := ⟨_, rfl⟩
  have b0 : Blk W0 w.heap.size 26 #[.bool false, .slice A na ca] := by rw [← hW0]; exact ((Blk.new w _ _).alloc _).alloc _
  have b1 : Blk W0 (w.heap.size + 1) 26 #[.bool true, .slice B nb cb] := by
    rw [← hW0]
    have := (Blk.new (w.alloc (.cells #[.bool false, .slice A na ca] 26)) 26 #[.bool true, .slice B nb cb]).alloc (.cells #[.bool false, .slice A na ca, .bool true, .slice B nb cb] 26)
    rwa [World.size_alloc] at this
  have b4 : Blk W0 (w.heap.size + 1 + 1) 26 #[.bool false, .slice A na ca, .bool true, .slice B nb cb] := by
    rw [← hW0]
    have := (Blk.new ((w.alloc (.cells #[.bool false, .slice A na ca] 26)).alloc (.cells #[.bool true, .slice B nb cb] 26)) 26 #[.bool false, .slice A na ca, .bool true, .slice B nb cb])
    rwa [World.size_alloc, World.size_alloc] at this
  have bw : Below w.heap.size w W0 := by rw [← hW0]; exact (by repeat (first | exact Below.refl _ _ | assumption | refine Below.alloc ?_ (by first | (simp; done) | (simp; omega) | omega) _ | refine Below.setCell ?_ (by first | (simp; done) | (simp; omega) | omega) _ | refine Below.drew ?_))
  have HW : Hid (((w.alloc (.cells #[.bool false, .slice A na ca] 26)).alloc (.cells #[.bool true, .slice B nb cb] 26)).alloc (.cells #[.bool false, .slice A na ca, .bool true, .slice B nb cb] 26) = W0) := hW0
  clear hW0
  have sa := hsa.below bw
  have sb := hsb.below bw
  have hav := allValid2 sa hna sb hnb b4
  rw [hv] at hav
  have HJ : Hid (Calls Try.prog 48 #[.slice (some ⟨w.heap.size + 1 + 1, 0, none⟩) 2 2] W0 fun e w' => e = .returned (.bool true) ∧ Below W0.heap.size W0 w') := hav
  have l0 := b0.lt
  have l1 := b1.lt
  clear hav hv hsa hsb
  go_enter Try.func33, Try.ntmps33
  go_wp2_with (first | (rw [HW.out]; go_at_call 48; refine HJ.out.mono ?_; rintro e w1 ⟨rfl, hb1⟩; have d0 := b0.below hb1 l0; have d1 := b1.below hb1 l1; have g0 := (d0.cell 0).trans (b := some (Value.bool false)) rfl; have g1 := (d0.cell 1).trans (b := some (Value.slice A na ca)) rfl; have g2 := (d1.cell 0).trans (b := some (Value.bool true)) rfl; have g3 := (d1.cell 1).trans (b := some (Value.slice B nb cb)) rfl) )
  go_ret
  exact ⟨rfl, bw.trans (hb1.mono bw.size)⟩

/-- The order of two numbers, as an int. -/
def cmpZ (y z : Int) : Int := if y < z then -1 else if z < y then 1 else 0

theorem cmp_z {w : World} {va vb : Value} {y z : Int} (hA : WhZ w va y) (hB : WhZ w vb z) (hy : Lz 1024 y) (hz : Lz 1024 z) :
    Calls Try.prog 33 #[va, vb] w fun e w' => e = .returned (.int .i64 (cmpZ y z)) ∧ Below w.heap.size w w' := by
  obtain ⟨A, ca, rfl, sa⟩ := id hA
  obtain ⟨B, cb, rfl, sb⟩ := id hB
  have vy := hy.ok (Nat.le_refl _)
  have vz := hz.ok (Nat.le_refl _)
  have hv : (validB (decide (y < 0)) (digs y.natAbs) && validB (decide (z < 0)) (digs z.natAbs)) = true := by rw [vy, vz]; rfl
  have e1 := cmpL_eq (norm_digs y.natAbs) (norm_digs z.natAbs)
  have e2 := cmpL_eq (norm_digs z.natAbs) (norm_digs y.natAbs)
  rw [val_digs, val_digs] at e1 e2
  unfold cmpN at e1 e2
  by_cases h1 : y < 0
  · rw [decide_eq_true h1] at hv ⊢
    by_cases h2 : z < 0
    · rw [decide_eq_true h2] at hv ⊢
      refine (cmp_nn sa sb rfl rfl hv hy hz).mono ?_
      rintro e w' ⟨rfl, hb⟩
      refine ⟨ret_int ?_, hb⟩
      rw [e2]
      unfold cmpZ
      repeat' split
      all_goals omega
    · rw [decide_eq_false h2] at hv ⊢
      refine (cmp_np sa sb rfl rfl hv hy hz).mono ?_
      rintro e w' ⟨rfl, hb⟩
      refine ⟨ret_int ?_, hb⟩
      unfold cmpZ
      rw [if_pos (by omega)]
  · rw [decide_eq_false h1] at hv ⊢
    by_cases h2 : z < 0
    · rw [decide_eq_true h2] at hv ⊢
      refine (cmp_pn sa sb rfl rfl hv hy hz).mono ?_
      rintro e w' ⟨rfl, hb⟩
      refine ⟨ret_int ?_, hb⟩
      unfold cmpZ
      rw [if_neg (by omega), if_pos (by omega)]
    · rw [decide_eq_false h2] at hv ⊢
      refine (cmp_pp sa sb rfl rfl hv hy hz).mono ?_
      rintro e w' ⟨rfl, hb⟩
      refine ⟨ret_int ?_, hb⟩
      rw [e1]
      unfold cmpZ
      repeat' split
      all_goals omega

theorem equal_z {w : World} {va vb : Value} {y z : Int} (hA : WhZ w va y) (hB : WhZ w vb z) (hy : Lz 1024 y) (hz : Lz 1024 z) :
    Calls Try.prog 30 #[va, vb] w fun e w' => e = .returned (.bool (decide (y = z))) ∧ Below w.heap.size w w' := by
  have h := equal_wh (show Wh w va _ _ from hA) (show Wh w vb _ _ from hB)
  rw [hy.ok (Nat.le_refl _), hz.ok (Nat.le_refl _)] at h
  refine h.mono ?_
  rintro e w' ⟨rfl, hb⟩
  refine ⟨ret_bool ?_, hb⟩
  simp only [Bool.and_self, Bool.true_and]
  refine decide_eq_decide.2 ⟨fun h => ?_, fun h => by subst h; exact ⟨rfl, rfl⟩⟩
  rw [← zv_whz y, ← zv_whz z, h.1, h.2]
end Go.Proofs.Ytgnidjhfiagfnaa
