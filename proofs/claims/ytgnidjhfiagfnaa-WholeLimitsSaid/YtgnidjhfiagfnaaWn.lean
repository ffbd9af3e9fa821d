/- The checked operations on two numbers. Conditions: both are in memory; what is joined keeps its contract. -/
import Derived.Test.YtgnidjhfiagfnaaWm
import Derived.RangeFuncNested
namespace Go.Proofs.Ytgnidjhfiagfnaa
open Go.RowKit Go.Shelf

set_option maxRecDepth 100000 in
set_option maxHeartbeats 2000000 in
theorem addF_any {x y : Bool} {la lb : List Nat} {A B : Option Addr} {na nb ca cb : Nat} {w : World} (z : Int) (hop : validB x la = true → validB y lb = true → OpZ 39 x la y lb z) (hsa : Sl w (.slice A na ca) la) (hsb : Sl w (.slice B nb cb) lb) (hna : Hid (la.length = na)) (hnb : Hid (lb.length = nb)) :
    Calls Try.prog 13 #[.agg #[.bool x, .slice A na ca], .agg #[.bool y, .slice B nb cb]] w fun e w' => ∃ v, e = .returned (.tuple #[v, .int .i64 (code (validB x la && validB y lb) z)]) ∧ WhZ w' v (resz (validB x la && validB y lb) z) ∧ Below w.heap.size w w' := by
  have hf : ∀ args w, (callFunc 39 args).run Try.prog w = .ok (.enter 39 args) w := enters_of Try.func39 (by kernel_rfl) rfl
  obtain ⟨W0, hW0⟩ : ∃ W0, (((w.alloc (.cells #[.bool x, .slice A na ca] 26)).alloc (.cells #[.bool y, .slice B nb cb] 26)).alloc (.cells #[.bool false, .slice none 0 0] 26)).alloc (.cells #[.bool y, .slice B nb cb] 26) = W0 := ⟨_, rfl⟩
  have b2 : Blk W0 (w.heap.size + 2) 26 #[.bool false, .slice none 0 0] := by
    rw [← hW0]
    have := (Blk.new ((w.alloc (.cells #[.bool x, .slice A na ca] 26)).alloc (.cells #[.bool y, .slice B nb cb] 26)) 26 #[.bool false, .slice none 0 0]).alloc (.cells #[.bool y, .slice B nb cb] 26)
    rwa [World.size_alloc, World.size_alloc] at this
  have b3 : Blk W0 (w.heap.size + 1 + 1 + 1) 26 #[.bool y, .slice B nb cb] := by
    rw [← hW0]
    have := (Blk.new (((w.alloc (.cells #[.bool x, .slice A na ca] 26)).alloc (.cells #[.bool y, .slice B nb cb] 26)).alloc (.cells #[.bool false, .slice none 0 0] 26)) 26 #[.bool y, .slice B nb cb])
    rwa [World.size_alloc, World.size_alloc, World.size_alloc] at this
  have bw : Below w.heap.size w W0 := by rw [← hW0]; exact (by repeat (first | exact Below.refl _ _ | assumption | refine Below.alloc ?_ (by first | (simp; done) | (simp; omega) | omega) _ | refine Below.setCell ?_ (by first | (simp; done) | (simp; omega) | omega) _ | refine Below.drew ?_))
  have HW : Hid ((((w.alloc (.cells #[.bool x, .slice A na ca] 26)).alloc (.cells #[.bool y, .slice B nb cb] 26)).alloc (.cells #[.bool false, .slice none 0 0] 26)).alloc (.cells #[.bool y, .slice B nb cb] 26) = W0) := hW0
  clear hW0
  have hj := join_any hf hop (hsa.below bw) hna (hsb.below bw) hnb b3
  obtain ⟨cd, hcd⟩ : ∃ cd, code (validB x la && validB y lb) z = cd := ⟨_, rfl⟩
  rw [hcd] at hj ⊢
  obtain ⟨rz, hrz⟩ : ∃ rz, resz (validB x la && validB y lb) z = rz := ⟨_, rfl⟩
  rw [hrz] at hj ⊢
  have HJ : Hid (Calls Try.prog 38 #[.func (.func 39) #[] #[], .agg #[.bool x, .slice A na ca], .slice (some ⟨w.heap.size + 1 + 1 + 1, 0, none⟩) 1 1] W0 fun e w' => ∃ v, e = .returned (.tuple #[v, .int .i64 cd]) ∧ WhZ w' v rz ∧ Below W0.heap.size W0 w') := hj
  have l2 := b2.lt
  clear hj hop hcd hrz hf hsa hsb
  go_enter Try.func13, Try.ntmps13
  go_wp2_with (rw [HW.out]; go_at_call 38; refine HJ.out.mono ?_; rintro e w1 ⟨v, rfl, hz, hb1⟩; obtain ⟨n', A', c', Hn', rfl, hs⟩ := whz_len hz; have d2 := b2.below hb1 l2; have g4 := (d2.cell 0).trans (b := some (Value.bool false)) rfl; have g5 := (d2.cell 1).trans (b := some (Value.slice none 0 0)) rfl; have h4 := d2.frozen 0; have h5 := d2.frozen 1; have l4 := d2.lt)
  have d4 := (d2.set_ 0 (.bool (decide (rz < 0)))).set_ 1 (.slice A' n' c')
  have r0 := (d4.cell 0).trans (b := some (Value.bool (decide (rz < 0)))) rfl
  have r1 := (d4.cell 1).trans (b := some (Value.slice A' n' c')) rfl
  have s5 := hs.store2 d2 (decide (rz < 0)) A' n' c'
  exact bodyPost_ret (v := .tuple #[.agg #[.bool (decide (rz < 0)), .slice A' n' c'], .int .i64 cd]) (by simp [results, Try.f13, go_sem, r0, r1]) rfl
    ⟨_, rfl, ⟨A', c', by rw [Hn'.out], by rw [Hn'.out]; exact s5⟩, (bw.trans (hb1.mono bw.size)).setCell (p := ⟨w.heap.size + 2, 0, none⟩) (by simp) _ |>.setCell (p := ⟨w.heap.size + 2, 1, none⟩) (by simp) _⟩

set_option maxRecDepth 100000 in
set_option maxHeartbeats 2000000 in
theorem subF_any {x y : Bool} {la lb : List Nat} {A B : Option Addr} {na nb ca cb : Nat} {w : World} (z : Int) (hop : validB x la = true → validB y lb = true → OpZ 40 x la y lb z) (hsa : Sl w (.slice A na ca) la) (hsb : Sl w (.slice B nb cb) lb) (hna : Hid (la.length = na)) (hnb : Hid (lb.length = nb)) :
    Calls Try.prog 14 #[.agg #[.bool x, .slice A na ca], .agg #[.bool y, .slice B nb cb]] w fun e w' => ∃ v, e = .returned (.tuple #[v, .int .i64 (code (validB x la && validB y lb) z)]) ∧ WhZ w' v (resz (validB x la && validB y lb) z) ∧ Below w.heap.size w w' := by
  have hf : ∀ args w, (callFunc 40 args).run Try.prog w = .ok (.enter 40 args) w := enters_of Try.func40 (by kernel_rfl) rfl
  obtain ⟨W0, hW0⟩ : ∃ W0, (((w.alloc (.cells #[.bool x, .slice A na ca] 26)).alloc (.cells #[.bool y, .slice B nb cb] 26)).alloc (.cells #[.bool false, .slice none 0 0] 26)).alloc (.cells #[.bool y, .slice B nb cb] 26) = W0 := ⟨_, rfl⟩
  have b2 : Blk W0 (w.heap.size + 2) 26 #[.bool false, .slice none 0 0] := by
    rw [← hW0]
    have := (Blk.new ((w.alloc (.cells #[.bool x, .slice A na ca] 26)).alloc (.cells #[.bool y, .slice B nb cb] 26)) 26 #[.bool false, .slice none 0 0]).alloc (.cells #[.bool y, .slice B nb cb] 26)
    rwa [World.size_alloc, World.size_alloc] at this
  have b3 : Blk W0 (w.heap.size + 1 + 1 + 1) 26 #[.bool y, .slice B nb cb] := by
    rw [← hW0]
    have := (Blk.new (((w.alloc (.cells #[.bool x, .slice A na ca] 26)).alloc (.cells #[.bool y, .slice B nb cb] 26)).alloc (.cells #[.bool false, .slice none 0 0] 26)) 26 #[.bool y, .slice B nb cb])
    rwa [World.size_alloc, World.size_alloc, World.size_alloc] at this
  have bw : Below w.heap.size w W0 := by rw [← hW0]; exact (by repeat (first | exact Below.refl _ _ | assumption | refine Below.alloc ?_ (by first | (simp; done) | (simp; omega) | omega) _ | refine Below.setCell ?_ (by first | (simp; done) | (simp; omega) | omega) _ | refine Below.drew ?_))
  have HW : Hid ((((w.alloc (.cells #[.bool x, .slice A na ca] 26)).alloc (.cells #[.bool y, .slice B nb cb] 26)).alloc (.cells #[.bool false, .slice none 0 0] 26)).alloc (.cells #[.bool y, .slice B nb cb] 26) = W0) := hW0
  clear hW0
  have hj := join_any hf hop (hsa.below bw) hna (hsb.below bw) hnb b3
  obtain ⟨cd, hcd⟩ : ∃ cd, code (validB x la && validB y lb) z = cd := ⟨_, rfl⟩
  rw [hcd] at hj ⊢
  obtain ⟨rz, hrz⟩ : ∃ rz, resz (validB x la && validB y lb) z = rz := ⟨_, rfl⟩
  rw [hrz] at hj ⊢
  have HJ : Hid (Calls Try.prog 38 #[.func (.func 40) #[] #[], .agg #[.bool x, .slice A na ca], .slice (some ⟨w.heap.size + 1 + 1 + 1, 0, none⟩) 1 1] W0 fun e w' => ∃ v, e = .returned (.tuple #[v, .int .i64 cd]) ∧ WhZ w' v rz ∧ Below W0.heap.size W0 w') := hj
  have l2 := b2.lt
  clear hj hop hcd hrz hf hsa hsb
  go_enter Try.func14, Try.ntmps14
  go_wp2_with (rw [HW.out]; go_at_call 38; refine HJ.out.mono ?_; rintro e w1 ⟨v, rfl, hz, hb1⟩; obtain ⟨n', A', c', Hn', rfl, hs⟩ := whz_len hz; have d2 := b2.below hb1 l2; have g4 := (d2.cell 0).trans (b := some (Value.bool false)) rfl; have g5 := (d2.cell 1).trans (b := some (Value.slice none 0 0)) rfl; have h4 := d2.frozen 0; have h5 := d2.frozen 1; have l4 := d2.lt)
  have d4 := (d2.set_ 0 (.bool (decide (rz < 0)))).set_ 1 (.slice A' n' c')
  have r0 := (d4.cell 0).trans (b := some (Value.bool (decide (rz < 0)))) rfl
  have r1 := (d4.cell 1).trans (b := some (Value.slice A' n' c')) rfl
  have s5 := hs.store2 d2 (decide (rz < 0)) A' n' c'
  exact bodyPost_ret (v := .tuple #[.agg #[.bool (decide (rz < 0)), .slice A' n' c'], .int .i64 cd]) (by simp [results, Try.f14, go_sem, r0, r1]) rfl
    ⟨_, rfl, ⟨A', c', by rw [Hn'.out], by rw [Hn'.out]; exact s5⟩, (bw.trans (hb1.mono bw.size)).setCell (p := ⟨w.heap.size + 2, 0, none⟩) (by simp) _ |>.setCell (p := ⟨w.heap.size + 2, 1, none⟩) (by simp) _⟩

set_option maxRecDepth 100000 in
set_option maxHeartbeats 2000000 in
theorem mulF_any {x y : Bool} {la lb : List Nat} {A B : Option Addr} {na nb ca cb : Nat} {w : World} (z : Int) (hop : validB x la = true → validB y lb = true → OpZ 41 x la y lb z) (hsa : Sl w (.slice A na ca) la) (hsb : Sl w (.slice B nb cb) lb) (hna : Hid (la.length = na)) (hnb : Hid (lb.length = nb)) :
    Calls Try.prog 15 #[.agg #[.bool x, .slice A na ca], .agg #[.bool y, .slice B nb cb]] w fun e w' => ∃ v, e = .returned (.tuple #[v, .int .i64 (code (validB x la && validB y lb) z)]) ∧ WhZ w' v (resz (validB x la && validB y lb) z) ∧ Below w.heap.size w w' := by
  have hf : ∀ args w, (callFunc 41 args).run Try.prog w = .ok (.enter 41 args) w := enters_of Try.func41 (by kernel_rfl) rfl
  obtain ⟨W0, hW0⟩ : ∃ W0, (((w.alloc (.cells #[.bool x, .slice A na ca] 26)).alloc (.cells #[.bool y, .slice B nb cb] 26)).alloc (.cells #[.bool false, .slice none 0 0] 26)).alloc (.cells #[.bool y, .slice B nb cb] 26) = W0 := ⟨_, rfl⟩
  have b2 : Blk W0 (w.heap.size + 2) 26 #[.bool false, .slice none 0 0] := by
    rw [← hW0]
    have := (Blk.new ((w.alloc (.cells #[.bool x, .slice A na ca] 26)).alloc (.cells #[.bool y, .slice B nb cb] 26)) 26 #[.bool false, .slice none 0 0]).alloc (.cells #[.bool y, .slice B nb cb] 26)
    rwa [World.size_alloc, World.size_alloc] at this
  have b3 : Blk W0 (w.heap.size + 1 + 1 + 1) 26 #[.bool y, .slice B nb cb] := by
    rw [← hW0]
    have := (Blk.new (((w.alloc (.cells #[.bool x, .slice A na ca] 26)).alloc (.cells #[.bool y, .slice B nb cb] 26)).alloc (.cells #[.bool false, .slice none 0 0] 26)) 26 #[.bool y, .slice B nb cb])
    rwa [World.size_alloc, World.size_alloc, World.size_alloc] at this
  have bw : Below w.heap.size w W0 := by rw [← hW0]; exact (by repeat (first | exact Below.refl _ _ | assumption | refine Below.alloc ?_ (by first | (simp; done) | (simp; omega) | omega) _ | refine Below.setCell ?_ (by first | (simp; done) | (simp; omega) | omega) _ | refine Below.drew ?_))
  have HW : Hid ((((w.alloc (.cells #[.bool x, .slice A na ca] 26)).alloc (.cells #[.bool y, .slice B nb cb] 26)).alloc (.cells #[.bool false, .slice none 0 0] 26)).alloc (.cells #[.bool y, .slice B nb cb] 26) = W0) := hW0
  clear hW0
  have hj := join_any hf hop (hsa.below bw) hna (hsb.below bw) hnb b3
  obtain ⟨cd, hcd⟩ : ∃ cd, code (validB x la && validB y lb) z = cd := ⟨_, rfl⟩
  rw [hcd] at hj ⊢
  obtain ⟨rz, hrz⟩ : ∃ rz, resz (validB x la && validB y lb) z = rz := ⟨_, rfl⟩
  rw [hrz] at hj ⊢
  have HJ : Hid (Calls Try.prog 38 #[.func (.func 41) #[] #[], .agg #[.bool x, .slice A na ca], .slice (some ⟨w.heap.size + 1 + 1 + 1, 0, none⟩) 1 1] W0 fun e w' => ∃ v, e = .returned (.tuple #[v, .int .i64 cd]) ∧ WhZ w' v rz ∧ Below W0.heap.size W0 w') := hj
  have l2 := b2.lt
  clear hj hop hcd hrz hf hsa hsb
  go_enter Try.func15, Try.ntmps15
  go_wp2_with (rw [HW.out]; go_at_call 38; refine HJ.out.mono ?_; rintro e w1 ⟨v, rfl, hz, hb1⟩; obtain ⟨n', A', c', Hn', rfl, hs⟩ := whz_len hz; have d2 := b2.below hb1 l2; have g4 := (d2.cell 0).trans (b := some (Value.bool false)) rfl; have g5 := (d2.cell 1).trans (b := some (Value.slice none 0 0)) rfl; have h4 := d2.frozen 0; have h5 := d2.frozen 1; have l4 := d2.lt)
  have d4 := (d2.set_ 0 (.bool (decide (rz < 0)))).set_ 1 (.slice A' n' c')
  have r0 := (d4.cell 0).trans (b := some (Value.bool (decide (rz < 0)))) rfl
  have r1 := (d4.cell 1).trans (b := some (Value.slice A' n' c')) rfl
  have s5 := hs.store2 d2 (decide (rz < 0)) A' n' c'
  exact bodyPost_ret (v := .tuple #[.agg #[.bool (decide (rz < 0)), .slice A' n' c'], .int .i64 cd]) (by simp [results, Try.f15, go_sem, r0, r1]) rfl
    ⟨_, rfl, ⟨A', c', by rw [Hn'.out], by rw [Hn'.out]; exact s5⟩, (bw.trans (hb1.mono bw.size)).setCell (p := ⟨w.heap.size + 2, 0, none⟩) (by simp) _ |>.setCell (p := ⟨w.heap.size + 2, 1, none⟩) (by simp) _⟩

set_option maxRecDepth 100000 in
set_option maxHeartbeats 2000000 in
theorem gcdF_any {x y : Bool} {la lb : List Nat} {A B : Option Addr} {na nb ca cb : Nat} {w : World} (z : Int) (hop : validB x la = true → validB y lb = true → OpZ 64 x la y lb z) (hsa : Sl w (.slice A na ca) la) (hsb : Sl w (.slice B nb cb) lb) (hna : Hid (la.length = na)) (hnb : Hid (lb.length = nb)) :
    Calls Try.prog 36 #[.agg #[.bool x, .slice A na ca], .agg #[.bool y, .slice B nb cb]] w fun e w' => ∃ v, e = .returned (.tuple #[v, .int .i64 (code (validB x la && validB y lb) z)]) ∧ WhZ w' v (resz (validB x la && validB y lb) z) ∧ Below w.heap.size w w' := by
  have hf : ∀ args w, (callFunc 64 args).run Try.prog w = .ok (.enter 64 args) w := enters_of Try.func64 (by kernel_rfl) rfl
  obtain ⟨W0, hW0⟩ : ∃ W0, (((w.alloc (.cells #[.bool x, .slice A na ca] 26)).alloc (.cells #[.bool y, .slice B nb cb] 26)).alloc (.cells #[.bool false, .slice none 0 0] 26)).alloc (.cells #[.bool y, .slice B nb cb] 26) = W0 := ⟨_, rfl⟩
  have b2 : Blk W0 (w.heap.size + 2) 26 #[.bool false, .slice none 0 0] := by
    rw [← hW0]
    have := (Blk.new ((w.alloc (.cells #[.bool x, .slice A na ca] 26)).alloc (.cells #[.bool y, .slice B nb cb] 26)) 26 #[.bool false, .slice none 0 0]).alloc (.cells #[.bool y, .slice B nb cb] 26)
    rwa [World.size_alloc, World.size_alloc] at this
  have b3 : Blk W0 (w.heap.size + 1 + 1 + 1) 26 #[.bool y, .slice B nb cb] := by
    rw [← hW0]
    have := (Blk.new (((w.alloc (.cells #[.bool x, .slice A na ca] 26)).alloc (.cells #[.bool y, .slice B nb cb] 26)).alloc (.cells #[.bool false, .slice none 0 0] 26)) 26 #[.bool y, .slice B nb cb])
    rwa [World.size_alloc, World.size_alloc, World.size_alloc] at this
  have bw : Below w.heap.size w W0 := by rw [← hW0]; exact (by repeat (first | exact Below.refl _ _ | assumption | refine Below.alloc ?_ (by first | (simp; done) | (simp; omega) | omega) _ | refine Below.setCell ?_ (by first | (simp; done) | (simp; omega) | omega) _ | refine Below.drew ?_))
  have HW : Hid ((((w.alloc (.cells #[.bool x, .slice A na ca] 26)).alloc (.cells #[.bool y, .slice B nb cb] 26)).alloc (.cells #[.bool false, .slice none 0 0] 26)).alloc (.cells #[.bool y, .slice B nb cb] 26) = W0) := hW0
  clear hW0
  have hj := join_any hf hop (hsa.below bw) hna (hsb.below bw) hnb b3
  obtain ⟨cd, hcd⟩ : ∃ cd, code (validB x la && validB y lb) z = cd := ⟨_, rfl⟩
  rw [hcd] at hj ⊢
  obtain ⟨rz, hrz⟩ : ∃ rz, resz (validB x la && validB y lb) z = rz := ⟨_, rfl⟩
  rw [hrz] at hj ⊢
  have HJ : Hid (Calls Try.prog 38 #[.func (.func 64) #[] #[], .agg #[.bool x, .slice A na ca], .slice (some ⟨w.heap.size + 1 + 1 + 1, 0, none⟩) 1 1] W0 fun e w' => ∃ v, e = .returned (.tuple #[v, .int .i64 cd]) ∧ WhZ w' v rz ∧ Below W0.heap.size W0 w') := hj
  have l2 := b2.lt
  clear hj hop hcd hrz hf hsa hsb
  go_enter Try.func36, Try.ntmps36
  go_wp2_with (rw [HW.out]; go_at_call 38; refine HJ.out.mono ?_; rintro e w1 ⟨v, rfl, hz, hb1⟩; obtain ⟨n', A', c', Hn', rfl, hs⟩ := whz_len hz; have d2 := b2.below hb1 l2; have g4 := (d2.cell 0).trans (b := some (Value.bool false)) rfl; have g5 := (d2.cell 1).trans (b := some (Value.slice none 0 0)) rfl; have h4 := d2.frozen 0; have h5 := d2.frozen 1; have l4 := d2.lt)
  have d4 := (d2.set_ 0 (.bool (decide (rz < 0)))).set_ 1 (.slice A' n' c')
  have r0 := (d4.cell 0).trans (b := some (Value.bool (decide (rz < 0)))) rfl
  have r1 := (d4.cell 1).trans (b := some (Value.slice A' n' c')) rfl
  have s5 := hs.store2 d2 (decide (rz < 0)) A' n' c'
  exact bodyPost_ret (v := .tuple #[.agg #[.bool (decide (rz < 0)), .slice A' n' c'], .int .i64 cd]) (by simp [results, Try.f36, go_sem, r0, r1]) rfl
    ⟨_, rfl, ⟨A', c', by rw [Hn'.out], by rw [Hn'.out]; exact s5⟩, (bw.trans (hb1.mono bw.size)).setCell (p := ⟨w.heap.size + 2, 0, none⟩) (by simp) _ |>.setCell (p := ⟨w.heap.size + 2, 1, none⟩) (by simp) _⟩


theorem add_wh {w : World} {va vb : Value} {x y : Bool} {la lb : List Nat} (hA : Wh w va x la) (hB : Wh w vb y lb) :
    Calls Try.prog 13 #[va, vb] w fun e w' => ∃ v, e = .returned (.tuple #[v, .int .i64 (code (validB x la && validB y lb) (zv x la + zv y lb))]) ∧ WhZ w' v (resz (validB x la && validB y lb) (zv x la + zv y lb)) ∧ Below w.heap.size w w' := by
  obtain ⟨A, ca, rfl, sa⟩ := hA
  obtain ⟨B, cb, rfl, sb⟩ := hB
  refine addF_any _ (fun hx hy => ?_) sa sb rfl rfl
  have h1 := valid_norm sa.1 hx
  have h2 := valid_norm sb.1 hy
  exact op_sum (by omega) (by omega) h1.1 h2.1
theorem sub_wh {w : World} {va vb : Value} {x y : Bool} {la lb : List Nat} (hA : Wh w va x la) (hB : Wh w vb y lb) :
    Calls Try.prog 14 #[va, vb] w fun e w' => ∃ v, e = .returned (.tuple #[v, .int .i64 (code (validB x la && validB y lb) (zv x la - zv y lb))]) ∧ WhZ w' v (resz (validB x la && validB y lb) (zv x la - zv y lb)) ∧ Below w.heap.size w w' := by
  obtain ⟨A, ca, rfl, sa⟩ := hA
  obtain ⟨B, cb, rfl, sb⟩ := hB
  refine subF_any _ (fun hx hy => ?_) sa sb rfl rfl
  have h1 := valid_norm sa.1 hx
  have h2 := valid_norm sb.1 hy
  exact op_difference (by omega) (by omega) h1.1 h2.1
end Go.Proofs.Ytgnidjhfiagfnaa
