/- The conversion of numbers to ints, and numbers all of whose limbs are full. Conditions: at most 1024 limbs. -/
import Derived.Test.YtgnidjhfiagfnaaXm
import Derived.Laws.OwnMore
namespace Go.Proofs.Ytgnidjhfiagfnaa
open Go.RowKit

set_option maxRecDepth 100000 in
set_option maxHeartbeats 400000 in
theorem word_long (A : Option Addr) (n c : Nat) (w : World) (hn : 4 < n) (hl : n ≤ 4611686018427387904) :
    Calls Try.prog 56 #[.slice A n c] w fun e w' => e = .returned (.tuple #[.int .u64 0, .bool false]) ∧ Below w.heap.size w w' := by
  go_enter Try.func56, Try.ntmps56
  go_wp2
  go_ret2
  exact ⟨rfl, (by repeat (first | exact Below.refl _ _ | assumption | refine Below.alloc ?_ (by first | (simp; done) | (simp; omega) | omega) _ | refine Below.setCell ?_ (by first | (simp; done) | (simp; omega) | omega) _ | refine Below.drew ?_))⟩

theorem neg_word (s : Nat) (h : s ≤ 9223372036854775808) : wrap64 (IntKind.u64.wrap (-(s : Int))) = -(s : Int) := by
  rw [IntKind.wrap_u64, wrap64]
  omega

theorem pos_word (s : Nat) (h : s < 9223372036854775808) : wrap64 (s : Int) = (s : Int) := by
  rw [wrap64]
  omega

set_option maxRecDepth 100000 in
set_option maxHeartbeats 2000000 in
theorem int_long (x : Bool) (l : List Nat) (A : Option Addr) (n c : Nat) (w : World) (hsl : Sl w (.slice A n c) l) (hn : Hid (l.length = n)) (hv : validB x l = true) (hn4 : 4 < n) :
    Calls Try.prog 26 #[.agg #[.bool x, .slice A n c]] w fun e w' => e = .returned (.tuple #[.int .i64 0, .int .i64 3]) ∧ Below w.heap.size w w' := by
  obtain ⟨W0, hW0⟩ : ∃ W0, (w.alloc (.cells #[.bool x, .slice A n c] 26)).alloc (.cells #[.bool x, .slice A n c] 26) = W0 := ⟨_, rfl⟩
  have b0 : Blk W0 w.heap.size 26 #[.bool x, .slice A n c] := by rw [← hW0]; exact (Blk.new w _ _).alloc _
  have b1 : Blk W0 (w.heap.size + 1) 26 #[.bool x, .slice A n c] := by
    rw [← hW0]
    have := (Blk.new (w.alloc (.cells #[.bool x, .slice A n c] 26)) 26 #[.bool x, .slice A n c])
    rwa [World.size_alloc] at this
  have bw : Below w.heap.size w W0 := by rw [← hW0]; exact (by repeat (first | exact Below.refl _ _ | assumption | refine Below.alloc ?_ (by first | (simp; done) | (simp; omega) | omega) _ | refine Below.setCell ?_ (by first | (simp; done) | (simp; omega) | omega) _ | refine Below.drew ?_))
  have HW : Hid ((w.alloc (.cells #[.bool x, .slice A n c] 26)).alloc (.cells #[.bool x, .slice A n c] 26) = W0) := hW0
  clear hW0
  have hvn := (valid_norm hsl.1 hv).2.1
  have s0 := hsl.below bw
  have h1 := allValid1 s0 hn b1
  rw [hv] at h1
  have hnl : n ≤ 1024 := by have := hn.out; omega
  have H1 : Hid (Calls Try.prog 48 #[.slice (some ⟨w.heap.size + 1, 0, none⟩) 1 1] W0 fun e w' => e = .returned (.bool true) ∧ Below W0.heap.size W0 w') := h1
  have H2 : Hid (∀ w1, Below W0.heap.size W0 w1 → Calls Try.prog 56 #[.slice A n c] w1 fun e w' => e = .returned (.tuple #[.int .u64 0, .bool false]) ∧ Below w1.heap.size w1 w') := fun w1 hb => word_long A n c w1 hn4 (by omega)
  have l0 := b0.lt
  clear h1 hv 
  go_enter Try.func26, Try.ntmps26
  go_wp2_with (first | (rw [HW.out]; go_at_call 48; refine H1.out.mono ?_; rintro e w1 ⟨rfl, hb1⟩; have d0 := b0.below hb1 l0; have g0 := (d0.cell 0).trans (b := some (Value.bool x)) rfl; have g1 := (d0.cell 1).trans (b := some (Value.slice A n c)) rfl; have l1 := d0.lt) | (go_at_call 56; refine (H2.out _ hb1).mono ?_; rintro e w2 ⟨rfl, hb2⟩; have d2 := d0.below hb2 l1; have e0 := (d2.cell 0).trans (b := some (Value.bool x)) rfl))
  go_ret2
  exact ⟨rfl, (bw.trans (hb1.mono bw.size)).trans (hb2.mono (Nat.le_trans bw.size hb1.size))⟩

set_option maxRecDepth 100000 in
set_option maxHeartbeats 2000000 in
theorem int_neg (l : List Nat) (A : Option Addr) (n c : Nat) (s : Nat) (w : World) (hsl : Sl w (.slice A n c) l) (hn : Hid (l.length = n)) (hv : validB true l = true) (hn4 : n ≤ 4) (hs : Hid (val l = s)) (hs1 : s ≤ 9223372036854775808) :
    Calls Try.prog 26 #[.agg #[.bool true, .slice A n c]] w fun e w' => e = .returned (.tuple #[.int .i64 (-(s : Int)), .int .i64 0]) ∧ Below w.heap.size w w' := by
  obtain ⟨W0, hW0⟩ : ∃ W0, (w.alloc (.cells #[.bool true, .slice A n c] 26)).alloc (.cells #[.bool true, .slice A n c] 26) = W0 := ⟨_, rfl⟩
  have b0 : Blk W0 w.heap.size 26 #[.bool true, .slice A n c] := by rw [← hW0]; exact (Blk.new w _ _).alloc _
  have b1 : Blk W0 (w.heap.size + 1) 26 #[.bool true, .slice A n c] := by
    rw [← hW0]
    have := (Blk.new (w.alloc (.cells #[.bool true, .slice A n c] 26)) 26 #[.bool true, .slice A n c])
    rwa [World.size_alloc] at this
  have bw : Below w.heap.size w W0 := by rw [← hW0]; exact (by repeat (first | exact Below.refl _ _ | assumption | refine Below.alloc ?_ (by first | (simp; done) | (simp; omega) | omega) _ | refine Below.setCell ?_ (by first | (simp; done) | (simp; omega) | omega) _ | refine Below.drew ?_))
  have HW : Hid ((w.alloc (.cells #[.bool true, .slice A n c] 26)).alloc (.cells #[.bool true, .slice A n c] 26) = W0) := hW0
  clear hW0
  have hvn := (valid_norm hsl.1 hv).2.1
  have s0 := hsl.below bw
  have h1 := allValid1 s0 hn b1
  rw [hv] at h1
  have hnl : n ≤ 1024 := by have := hn.out; omega
  have H1 : Hid (Calls Try.prog 48 #[.slice (some ⟨w.heap.size + 1, 0, none⟩) 1 1] W0 fun e w' => e = .returned (.bool true) ∧ Below W0.heap.size W0 w') := h1
  have hlt := val_lt hsl.1
  rw [hn.out, hs.out] at hlt
  have hs64 : s < 18446744073709551616 := Nat.lt_of_lt_of_le hlt (by
    have : 65536 ^ n ≤ 65536 ^ 4 := Nat.pow_le_pow_right (by omega) hn4
    omega)
  have H2 : Hid (∀ w1, Below W0.heap.size W0 w1 → Calls Try.prog 56 #[.slice A n c] w1 fun e w' => e = .returned (.tuple #[.int .u64 s, .bool true]) ∧ Below w1.heap.size w1 w') := fun w1 hb => by
    have := word_any l A n c w1 (s0.below hb) hn hn4
    rw [hs.out] at this
    exact this
  have l0 := b0.lt
  clear h1 hv hlt 
  go_enter Try.func26, Try.ntmps26
  go_wp2_with (first | (rw [HW.out]; go_at_call 48; refine H1.out.mono ?_; rintro e w1 ⟨rfl, hb1⟩; have d0 := b0.below hb1 l0; have g0 := (d0.cell 0).trans (b := some (Value.bool true)) rfl; have g1 := (d0.cell 1).trans (b := some (Value.slice A n c)) rfl; have l1 := d0.lt) | (go_at_call 56; refine (H2.out _ hb1).mono ?_; rintro e w2 ⟨rfl, hb2⟩; have d2 := d0.below hb2 l1; have e0 := (d2.cell 0).trans (b := some (Value.bool true)) rfl))
  go_ret2
  refine ⟨?_, (bw.trans (hb1.mono bw.size)).trans (hb2.mono (Nat.le_trans bw.size hb1.size))⟩
  show Ending.returned (.tuple #[.int .i64 (wrap64 (IntKind.u64.wrap (-(s : Int)))), .int .i64 0]) = _
  rw [show wrap64 (IntKind.u64.wrap (-(s : Int))) = -(s : Int) from neg_word s hs1]

set_option maxRecDepth 100000 in
set_option maxHeartbeats 2000000 in
theorem int_nlow (l : List Nat) (A : Option Addr) (n c : Nat) (s : Nat) (w : World) (hsl : Sl w (.slice A n c) l) (hn : Hid (l.length = n)) (hv : validB true l = true) (hn4 : n ≤ 4) (hs : Hid (val l = s)) (hs1 : 9223372036854775808 < s) :
    Calls Try.prog 26 #[.agg #[.bool true, .slice A n c]] w fun e w' => e = .returned (.tuple #[.int .i64 0, .int .i64 3]) ∧ Below w.heap.size w w' := by
  obtain ⟨W0, hW0⟩ : ∃ W0, (w.alloc (.cells #[.bool true, .slice A n c] 26)).alloc (.cells #[.bool true, .slice A n c] 26) = W0 := ⟨_, rfl⟩
  have b0 : Blk W0 w.heap.size 26 #[.bool true, .slice A n c] := by rw [← hW0]; exact (Blk.new w _ _).alloc _
  have b1 : Blk W0 (w.heap.size + 1) 26 #[.bool true, .slice A n c] := by
    rw [← hW0]
    have := (Blk.new (w.alloc (.cells #[.bool true, .slice A n c] 26)) 26 #[.bool true, .slice A n c])
    rwa [World.size_alloc] at this
  have bw : Below w.heap.size w W0 := by rw [← hW0]; exact (by repeat (first | exact Below.refl _ _ | assumption | refine Below.alloc ?_ (by first | (simp; done) | (simp; omega) | omega) _ | refine Below.setCell ?_ (by first | (simp; done) | (simp; omega) | omega) _ | refine Below.drew ?_))
  have HW : Hid ((w.alloc (.cells #[.bool true, .slice A n c] 26)).alloc (.cells #[.bool true, .slice A n c] 26) = W0) := hW0
  clear hW0
  have hvn := (valid_norm hsl.1 hv).2.1
  have s0 := hsl.below bw
  have h1 := allValid1 s0 hn b1
  rw [hv] at h1
  have hnl : n ≤ 1024 := by have := hn.out; omega
  have H1 : Hid (Calls Try.prog 48 #[.slice (some ⟨w.heap.size + 1, 0, none⟩) 1 1] W0 fun e w' => e = .returned (.bool true) ∧ Below W0.heap.size W0 w') := h1
  have hlt := val_lt hsl.1
  rw [hn.out, hs.out] at hlt
  have hs64 : s < 18446744073709551616 := Nat.lt_of_lt_of_le hlt (by
    have : 65536 ^ n ≤ 65536 ^ 4 := Nat.pow_le_pow_right (by omega) hn4
    omega)
  have H2 : Hid (∀ w1, Below W0.heap.size W0 w1 → Calls Try.prog 56 #[.slice A n c] w1 fun e w' => e = .returned (.tuple #[.int .u64 s, .bool true]) ∧ Below w1.heap.size w1 w') := fun w1 hb => by
    have := word_any l A n c w1 (s0.below hb) hn hn4
    rw [hs.out] at this
    exact this
  have l0 := b0.lt
  clear h1 hv hlt 
  go_enter Try.func26, Try.ntmps26
  go_wp2_with (first | (rw [HW.out]; go_at_call 48; refine H1.out.mono ?_; rintro e w1 ⟨rfl, hb1⟩; have d0 := b0.below hb1 l0; have g0 := (d0.cell 0).trans (b := some (Value.bool true)) rfl; have g1 := (d0.cell 1).trans (b := some (Value.slice A n c)) rfl; have l1 := d0.lt) | (go_at_call 56; refine (H2.out _ hb1).mono ?_; rintro e w2 ⟨rfl, hb2⟩; have d2 := d0.below hb2 l1; have e0 := (d2.cell 0).trans (b := some (Value.bool true)) rfl))
  go_ret2
  exact ⟨rfl, (bw.trans (hb1.mono bw.size)).trans (hb2.mono (Nat.le_trans bw.size hb1.size))⟩

set_option maxRecDepth 100000 in
set_option maxHeartbeats 2000000 in
theorem int_pos (l : List Nat) (A : Option Addr) (n c : Nat) (s : Nat) (w : World) (hsl : Sl w (.slice A n c) l) (hn : Hid (l.length = n)) (hv : validB false l = true) (hn4 : n ≤ 4) (hs : Hid (val l = s)) (hs1 : Hid (s < 9223372036854775808)) :
    Calls Try.prog 26 #[.agg #[.bool false, .slice A n c]] w fun e w' => e = .returned (.tuple #[.int .i64 (s : Int), .int .i64 0]) ∧ Below w.heap.size w w' := by
  obtain ⟨W0, hW0⟩ : ∃ W0, (w.alloc (.cells #[.bool false, .slice A n c] 26)).alloc (.cells #[.bool false, .slice A n c] 26) = W0 := ⟨_, rfl⟩
  have b0 : Blk W0 w.heap.size 26 #[.bool false, .slice A n c] := by rw [← hW0]; exact (Blk.new w _ _).alloc _
  have b1 : Blk W0 (w.heap.size + 1) 26 #[.bool false, .slice A n c] := by
    rw [← hW0]
    have := (Blk.new (w.alloc (.cells #[.bool false, .slice A n c] 26)) 26 #[.bool false, .slice A n c])
    rwa [World.size_alloc] at this
  have bw : Below w.heap.size w W0 := by rw [← hW0]; exact (by repeat (first | exact Below.refl _ _ | assumption | refine Below.alloc ?_ (by first | (simp; done) | (simp; omega) | omega) _ | refine Below.setCell ?_ (by first | (simp; done) | (simp; omega) | omega) _ | refine Below.drew ?_))
  have HW : Hid ((w.alloc (.cells #[.bool false, .slice A n c] 26)).alloc (.cells #[.bool false, .slice A n c] 26) = W0) := hW0
  clear hW0
  have hvn := (valid_norm hsl.1 hv).2.1
  have s0 := hsl.below bw
  have h1 := allValid1 s0 hn b1
  rw [hv] at h1
  have hnl : n ≤ 1024 := by have := hn.out; omega
  have H1 : Hid (Calls Try.prog 48 #[.slice (some ⟨w.heap.size + 1, 0, none⟩) 1 1] W0 fun e w' => e = .returned (.bool true) ∧ Below W0.heap.size W0 w') := h1
  have hlt := val_lt hsl.1
  rw [hn.out, hs.out] at hlt
  have hs64 : s < 18446744073709551616 := Nat.lt_of_lt_of_le hlt (by
    have : 65536 ^ n ≤ 65536 ^ 4 := Nat.pow_le_pow_right (by omega) hn4
    omega)
  have H2 : Hid (∀ w1, Below W0.heap.size W0 w1 → Calls Try.prog 56 #[.slice A n c] w1 fun e w' => e = .returned (.tuple #[.int .u64 s, .bool true]) ∧ Below w1.heap.size w1 w') := fun w1 hb => by
    have := word_any l A n c w1 (s0.below hb) hn hn4
    rw [hs.out] at this
    exact this
  have t1 : (decide ((s : Int) < 9223372036854775808)) = true := decide_eq_true (by have := hs1.out; omega)
  have l0 := b0.lt
  clear h1 hv hlt 
  go_enter Try.func26, Try.ntmps26
  go_wp2_with (first | (rw [HW.out]; go_at_call 48; refine H1.out.mono ?_; rintro e w1 ⟨rfl, hb1⟩; have d0 := b0.below hb1 l0; have g0 := (d0.cell 0).trans (b := some (Value.bool false)) rfl; have g1 := (d0.cell 1).trans (b := some (Value.slice A n c)) rfl; have l1 := d0.lt) | (go_at_call 56; refine (H2.out _ hb1).mono ?_; rintro e w2 ⟨rfl, hb2⟩; have d2 := d0.below hb2 l1; have e0 := (d2.cell 0).trans (b := some (Value.bool false)) rfl))
  go_ret2
  refine ⟨?_, (bw.trans (hb1.mono bw.size)).trans (hb2.mono (Nat.le_trans bw.size hb1.size))⟩
  show Ending.returned (.tuple #[.int .i64 (wrap64 (s : Int)), .int .i64 0]) = _
  rw [show wrap64 (s : Int) = (s : Int) from pos_word s hs1.out]

set_option maxRecDepth 100000 in
set_option maxHeartbeats 2000000 in
theorem int_phigh (l : List Nat) (A : Option Addr) (n c : Nat) (s : Nat) (w : World) (hsl : Sl w (.slice A n c) l) (hn : Hid (l.length = n)) (hv : validB false l = true) (hn4 : n ≤ 4) (hs : Hid (val l = s)) (hs1 : Hid (9223372036854775808 ≤ s)) :
    Calls Try.prog 26 #[.agg #[.bool false, .slice A n c]] w fun e w' => e = .returned (.tuple #[.int .i64 0, .int .i64 3]) ∧ Below w.heap.size w w' := by
  obtain ⟨W0, hW0⟩ : ∃ W0, (w.alloc (.cells #[.bool false, .slice A n c] 26)).alloc (.cells #[.bool false, .slice A n c] 26) = W0 := ⟨_, rfl⟩
  have b0 : Blk W0 w.heap.size 26 #[.bool false, .slice A n c] := by rw [← hW0]; exact (Blk.new w _ _).alloc _
  have b1 : Blk W0 (w.heap.size + 1) 26 #[.bool false, .slice A n c] := by
    rw [← hW0]
    have := (Blk.new (w.alloc (.cells #[.bool false, .slice A n c] 26)) 26 #[.bool false, .slice A n c])
    rwa [World.size_alloc] at this
  have bw : Below w.heap.size w W0 := by rw [← hW0]; exact (by repeat (first | exact Below.refl _ _ | assumption | refine Below.alloc ?_ (by first | (simp; done) | (simp; omega) | omega) _ | refine Below.setCell ?_ (by first | (simp; done) | (simp; omega) | omega) _ | refine Below.drew ?_))
  have HW : Hid ((w.alloc (.cells #[.bool false, .slice A n c] 26)).alloc (.cells #[.bool false, .slice A n c] 26) = W0) := hW0
  clear hW0
  have hvn := (valid_norm hsl.1 hv).2.1
  have s0 := hsl.below bw
  have h1 := allValid1 s0 hn b1
  rw [hv] at h1
  have hnl : n ≤ 1024 := by have := hn.out; omega
  have H1 : Hid (Calls Try.prog 48 #[.slice (some ⟨w.heap.size + 1, 0, none⟩) 1 1] W0 fun e w' => e = .returned (.bool true) ∧ Below W0.heap.size W0 w') := h1
  have hlt := val_lt hsl.1
  rw [hn.out, hs.out] at hlt
  have hs64 : s < 18446744073709551616 := Nat.lt_of_lt_of_le hlt (by
    have : 65536 ^ n ≤ 65536 ^ 4 := Nat.pow_le_pow_right (by omega) hn4
    omega)
  have H2 : Hid (∀ w1, Below W0.heap.size W0 w1 → Calls Try.prog 56 #[.slice A n c] w1 fun e w' => e = .returned (.tuple #[.int .u64 s, .bool true]) ∧ Below w1.heap.size w1 w') := fun w1 hb => by
    have := word_any l A n c w1 (s0.below hb) hn hn4
    rw [hs.out] at this
    exact this
  have t1 : (decide ((s : Int) < 9223372036854775808)) = false := decide_eq_false (by have := hs1.out; omega)
  have l0 := b0.lt
  clear h1 hv hlt 
  go_enter Try.func26, Try.ntmps26
  go_wp2_with (first | (rw [HW.out]; go_at_call 48; refine H1.out.mono ?_; rintro e w1 ⟨rfl, hb1⟩; have d0 := b0.below hb1 l0; have g0 := (d0.cell 0).trans (b := some (Value.bool false)) rfl; have g1 := (d0.cell 1).trans (b := some (Value.slice A n c)) rfl; have l1 := d0.lt) | (go_at_call 56; refine (H2.out _ hb1).mono ?_; rintro e w2 ⟨rfl, hb2⟩; have d2 := d0.below hb2 l1; have e0 := (d2.cell 0).trans (b := some (Value.bool false)) rfl))
  go_ret2
  exact ⟨rfl, (bw.trans (hb1.mono bw.size)).trans (hb2.mono (Nat.le_trans bw.size hb1.size))⟩

/-- An int that holds the number, or 0 and what is wrong. -/
theorem int_z {w : World} {v : Value} {z : Int} (h : WhZ w v z) (hz : Lz 1024 z) (h1 : -9223372036854775808 ≤ z) (h2 : z < 9223372036854775808) :
    Calls Try.prog 26 #[v] w fun e w' => e = .returned (.tuple #[.int .i64 z, .int .i64 0]) ∧ Below w.heap.size w w' := by
  obtain ⟨A, c, rfl, hs⟩ := h
  have hl4 : (digs z.natAbs).length ≤ 4 := digs_length (by omega)
  have hv := hz.ok (Nat.le_refl _)
  by_cases hneg : z < 0
  · rw [decide_eq_true hneg] at hv ⊢
    have := int_neg _ A _ c z.natAbs w hs rfl hv hl4 (val_digs _) (by omega)
    rw [show -((z.natAbs : Nat) : Int) = z by omega] at this
    exact this
  · rw [decide_eq_false hneg] at hv ⊢
    have := int_pos _ A _ c z.natAbs w hs rfl hv hl4 (val_digs _) (by show _ < _; omega)
    rw [show ((z.natAbs : Nat) : Int) = z by omega] at this
    exact this
theorem int_out {w : World} {v : Value} {z : Int} (h : WhZ w v z) (hz : Lz 1024 z) (h1 : z < -9223372036854775808 ∨ 9223372036854775808 ≤ z) :
    Calls Try.prog 26 #[v] w fun e w' => e = .returned (.tuple #[.int .i64 0, .int .i64 3]) ∧ Below w.heap.size w w' := by
  obtain ⟨A, c, rfl, hs⟩ := h
  have hv := hz.ok (Nat.le_refl _)
  by_cases hl4 : (digs z.natAbs).length ≤ 4
  · by_cases hneg : z < 0
    · rw [decide_eq_true hneg] at hv ⊢
      exact int_nlow _ A _ c z.natAbs w hs rfl hv hl4 (val_digs _) (by omega)
    · rw [decide_eq_false hneg] at hv ⊢
      exact int_phigh _ A _ c z.natAbs w hs rfl hv hl4 (val_digs _) (by show _ ≤ _; omega)
  · exact int_long _ _ A _ c w hs rfl hv (by omega)

theorem val_full (n : Nat) : val (List.replicate n 65535) + 1 = 65536 ^ n := by
  induction n with
  | zero => rfl
  | succ n ih => rw [List.replicate_succ, val, Nat.pow_succ]; omega
theorem limbs_full (n : Nat) : Limbs (List.replicate n 65535) := fun x hx => by have := (List.mem_replicate.1 hx).2; omega

theorem made_vals (n : Nat) : (madeCells (Value.int .u16 0).cells (n * 1)).toList = vals (List.replicate n 0) := by
  rw [Nat.mul_one]
  show (madeCells #[Value.int .u16 0] n).toList = _
  rw [toList_madeCells_one]
  unfold vals
  rw [List.map_replicate]
  rfl

theorem vals_set (l : List Nat) (j x : Nat) : (vals l).set j (.int .u16 (x : Int)) = vals (l.set j x) := by
  unfold vals; rw [List.map_set]
theorem vals_at {l : List Nat} {j : Nat} (h : j < l.length) : (vals l)[j]? = some (.int .u16 (nth l j : Int)) := by
  unfold vals nth
  simp [List.getD_eq_getElem?_getD, h]

set_option maxRecDepth 100000 in
set_option maxHeartbeats 2000000 in
theorem large_any (n : Nat) (w : World) (hn : n ≤ 100000) :
    Calls Try.prog 24 #[.int .i64 n] w fun e w' => ∃ v, e = .returned v ∧ Wh w' v false (List.replicate n 65535) ∧ Below w.heap.size w w' := by
  obtain ⟨i0, hi, hz0, hz1, hz2⟩ := info_parts info22
  have b0 := Blk.new w 26 #[.bool false, .slice none 0 0]
  have bw : Below w.heap.size w (w.alloc (.cells #[.bool false, .slice none 0 0] 26)) := (by repeat (first | exact Below.refl _ _ | assumption | refine Below.alloc ?_ (by first | (simp; done) | (simp; omega) | omega) _ | refine Below.setCell ?_ (by first | (simp; done) | (simp; omega) | omega) _ | refine Below.drew ?_))
  go_enter Try.func24, Try.ntmps24
  go_wp2_with (at_make; refine wpList_make_full _ rfl _ _ 24 rfl w.heap.size 22 i0 (.int .u16 0) 1 Try.underlying24 hi hz0 hz1 .i64 .i64 _ _ n rfl rfl rfl rfl (by rw [hz2]; omega) (by unfold maxLen; omega) (by simp) ?_; intro w0 hown0 hgrow0; rw [World.size_alloc, made_vals] at hown0)
  have p0 := b0.grown hgrow0 (by simp)
  have bw0 := bw.grown hgrow0 bw.size (by simp)
  have hg0 : w.heap.size + 1 < w0.heap.size ∨ n = 0 := by
    rcases hown0.2 with ⟨h1, h2⟩ | ⟨g, cap', cur, h1, h2, h3, _⟩
    · right; exact h2
    · left
      injection h1 with a b c
      injection a with a
      injection a with a
      subst a
      exact (Array.getElem?_eq_some_iff.1 h3).1
  clear b0 bw hgrow0
  go_loopw [4] (fun i wr => ∃ (k : Nat) (ys : List Nat), k ≤ n ∧ i = .int .i64 k ∧ Hid (ys.length = n ∧ ∀ j, j < k → nth ys j = 65535) ∧ wr.ownsRow w.heap.size 22 1 (.slice (some ⟨w.heap.size + 1, 0, none⟩) n n) n (vals ys) ∧ Blk wr w.heap.size 26 #[.bool false, .slice none 0 0] ∧ Below w.heap.size w wr) (fun i _ => n - (intOf i).toNat)
  case atStart => exact ⟨0, List.replicate n 0, by omega, rfl, ⟨by simp, fun j hj => by omega⟩, hown0, p0, bw0⟩
  case round =>
    obtain ⟨k, ys, hk, rfl, HY, hown, hb, hbel⟩ := hrel
    by_cases hlt : k < n
    · have xk := (hown.cellAt k (by omega)).trans (vals_at (by rw [HY.out.1]; omega))
      have fk := hown.frozenAt k
      have own2 := (hown.stored k (.int .u16 ((65535 : Nat) : Int))).1
      rw [vals_set] at own2
      have hb2 := hb.far (p := ⟨w.heap.size + 1, k, none⟩) (by show w.heap.size ≠ w.heap.size + 1; omega) (.int .u16 ((65535 : Nat) : Int))
      have hbel2 := hbel.setCell (p := ⟨w.heap.size + 1, k, none⟩) (by show w.heap.size ≤ w.heap.size + 1; omega) (.int .u16 ((65535 : Nat) : Int))
      have HY2 : Hid ((ys.set k 65535).length = n ∧ ∀ j, j < k + 1 → nth (ys.set k 65535) j = 65535) := by
        refine ⟨by rw [List.length_set]; exact HY.out.1, fun j hj => ?_⟩
        rw [nth_set _ _ _ _ (by rw [HY.out.1]; exact hlt)]
        split
        · rfl
        · exact HY.out.2 j (by omega)
      have hki : (k : Int) < (n : Int) := by omega
      clear hown hb hbel hown0 p0 bw0
      go_wp2
      go_roundw
      case rel => exact ⟨k + 1, ys.set k 65535, by omega, by go_num, HY2, own2, hb2, hbel2⟩
      case measure => simp [intOf]; omega
    · obtain rfl : k = n := by omega
      have hys : ys = List.replicate k 65535 := list_ext (by rw [HY.out.1]; simp) (fun j hj => by
        rw [HY.out.1] at hj
        rw [HY.out.2 j hj]
        unfold nth
        simp [List.getD_eq_getElem?_getD, hj])
      subst hys
      have g4 := (hb.cell 0).trans (b := some (Value.bool false)) rfl
      have g5 := (hb.cell 1).trans (b := some (Value.slice none 0 0)) rfl
      have h4 := hb.frozen 0
      have h5 := hb.frozen 1
      have l4 := hb.lt
      have HO : Hid (wr.ownsRow w.heap.size 22 1 (.slice (some ⟨w.heap.size + 1, 0, none⟩) k k) k (vals (List.replicate k 65535))) := hown
      clear hown hown0
      go_wp2
      have d4 := (hb.set_ 0 (.bool false)).set_ 1 (.slice (some ⟨w.heap.size + 1, 0, none⟩) k k)
      have r0 := (d4.cell 0).trans (b := some (Value.bool false)) rfl
      have r1 := (d4.cell 1).trans (b := some (Value.slice (some ⟨w.heap.size + 1, 0, none⟩) k k)) rfl
      have hs : Sl wr (.slice (some ⟨w.heap.size + 1, 0, none⟩) k k) (List.replicate k 65535) := by
        have ho := HO.out
        have hlr : (List.replicate k 65535).length = k := by simp
        refine ⟨limbs_full k, by rw [hlr]; omega, some ⟨w.heap.size + 1, 0, none⟩, k, by rw [hlr], by rw [hlr]; omega, by unfold maxLen; omega, ?_⟩
        refine at_own (base := w.heap.size) (cap := k) ?_
        rw [hlr]
        exact ho
      have hs2 := hs.store2 hb false (some ⟨w.heap.size + 1, 0, none⟩) k k
      exact bodyPost_ret (v := .agg #[.bool false, .slice (some ⟨w.heap.size + 1, 0, none⟩) k k]) (by simp [results, Try.f24, go_sem, r0, r1]) rfl
        ⟨_, rfl, ⟨some ⟨w.heap.size + 1, 0, none⟩, k, by simp, by simpa using hs2⟩, (hbel.setCell (p := ⟨w.heap.size, 0, none⟩) (by simp) _).setCell (p := ⟨w.heap.size, 1, none⟩) (by simp) _⟩
end Go.Proofs.Ytgnidjhfiagfnaa
