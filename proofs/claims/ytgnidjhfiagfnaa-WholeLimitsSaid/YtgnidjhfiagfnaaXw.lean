/- Parse, as it reads a text. Conditions: none but on the lengths. -/
import Derived.Test.YtgnidjhfiagfnaaXv
namespace Go.Proofs.Ytgnidjhfiagfnaa
open Go.RowKit

/-- The text without its sign, and whether it has one. -/
def unsigned (s : ByteArray) : ByteArray := ⟨(Lib.trimPrefix s.data.toList (⟨#[45]⟩ : ByteArray).data.toList).toArray⟩
def signedB (s : ByteArray) : Bool := Lib.hasPrefix s.data.toList (⟨#[45]⟩ : ByteArray).data.toList

theorem cut_any (s : ByteArray) (W : World) : Calls Try.prog 51 #[.string s, .string ⟨#[45]⟩] W fun e w' => e = .returned (.tuple #[.string (unsigned s), .bool (signedB s)]) ∧ W = w' := by
  refine (Try.strings_CutPrefix s ⟨#[45]⟩ W).mono ?_
  rintro e w' ⟨rfl, rfl⟩
  exact ⟨rfl, rfl⟩

theorem sign_false {N n : Nat} (_h : (digs N).length = n) : decide (((N : Nat) : Int) < 0) = false := by simp
theorem sign_true {N n : Nat} (h : (digs N).length = n) : decide ((-((N : Nat) : Int)) < 0) = decide (0 < n) := by
  apply decide_eq_decide.2
  rcases Nat.eq_zero_or_pos N with h0 | h0
  · subst h0
    rw [digs_zero] at h
    simp at h
    omega
  · have : (digs N).length ≠ 0 := fun e => by have := digs_eq_nil.1 (List.eq_nil_of_length_eq_zero e); omega
    omega

theorem signedB_byt (s : ByteArray) : signedB s = ((byt s).head? == some 45) := by
  unfold signedB byt Lib.hasPrefix
  cases h : s.data.toList with
  | nil => rfl
  | cons c r =>
    show ((45 : UInt8) == c && List.isPrefixOf [] r) = _
    simp
    rw [Bool.eq_iff_iff]
    simp
    constructor
    · rintro rfl; rfl
    · intro e
      exact UInt8.toNat_inj.1 e.symm
theorem unsigned_byt (s : ByteArray) : byt (unsigned s) = if signedB s then (byt s).tail else byt s := by
  unfold unsigned Lib.trimPrefix
  have e : Lib.hasPrefix s.data.toList (⟨#[45]⟩ : ByteArray).data.toList = signedB s := rfl
  rw [e]
  unfold byt
  split
  · simp
  · simp
theorem unsigned_size (s : ByteArray) : (unsigned s).size ≤ s.size := by
  rw [← byt_length, ← byt_length, unsigned_byt]
  split
  · simp
  · omega

set_option maxRecDepth 100000 in
set_option maxHeartbeats 2000000 in
theorem parse_not (s d : ByteArray) (ng : Bool) (w : World) (hcut : Hid (∀ W, Calls Try.prog 51 #[.string s, .string ⟨#[45]⟩] W fun e w' => e = .returned (.tuple #[.string d, .bool ng]) ∧ W = w')) (hsz : d.size ≤ 4611686018427387904) (hdec : isDecB (byt d) = false) :
    Calls Try.prog 23 #[.string s] w fun e w' => ∃ v, e = .returned (.tuple #[v, .int .i64 10]) ∧ WhZ w' v 0 ∧ Below w.heap.size w w' := by
  have b0 := Blk.new w 26 #[.bool false, .slice none 0 0]
  have l0 := b0.lt
  have g0 := (b0.cell 0).trans (b := some (Value.bool false)) rfl
  have g1 := (b0.cell 1).trans (b := some (Value.slice none 0 0)) rfl
  have f0 := b0.frozen 0
  have f1 := b0.frozen 1
  have bw : Below w.heap.size w (w.alloc (.cells #[.bool false, .slice none 0 0] 26)) := (by repeat (first | exact Below.refl _ _ | assumption | refine Below.alloc ?_ (by first | (simp; done) | (simp; omega) | omega) _ | refine Below.setCell ?_ (by first | (simp; done) | (simp; omega) | omega) _ | refine Below.drew ?_))
  have HD : Hid (∀ W, Calls Try.prog 52 #[.string d] W fun e w' => e = .returned (.bool false) ∧ W = w') := fun W => by
    have := decimal_any d W hsz
    rw [hdec] at this
    exact this
  go_enter Try.func23, Try.ntmps23
  go_wp2_with (first | (go_at_call 51; refine (hcut.out _).mono ?_; rintro e w1 ⟨rfl, rfl⟩) | (go_at_call 52; refine (HD.out _).mono ?_; rintro e w1 ⟨rfl, rfl⟩))
  have d4 := (b0.set_ 0 (.bool false)).set_ 1 (.slice none 0 0)
  have r0 := (d4.cell 0).trans (b := some (Value.bool false)) rfl
  have r1 := (d4.cell 1).trans (b := some (Value.slice none 0 0)) rfl
  exact bodyPost_ret (v := .tuple #[.agg #[.bool false, .slice none 0 0], .int .i64 10]) (by simp [results, Try.f23, go_sem]) rfl ⟨_, rfl, whz_zero _, (by repeat (first | exact Below.refl _ _ | assumption | refine Below.alloc ?_ (by first | (simp; done) | (simp; omega) | omega) _ | refine Below.setCell ?_ (by first | (simp; done) | (simp; omega) | omega) _ | refine Below.drew ?_))⟩

set_option maxRecDepth 100000 in
set_option maxHeartbeats 2000000 in
theorem parse_minus (s d : ByteArray) (ng : Bool) (w : World) (hcut : Hid (∀ W, Calls Try.prog 51 #[.string s, .string ⟨#[45]⟩] W fun e w' => e = .returned (.tuple #[.string d, .bool ng]) ∧ W = w')) (hsz : d.size ≤ 4611686018427387904) (hdec : isDecB (byt d) = true) (hng : ng = true) (h48 : byt d = [48]) :
    Calls Try.prog 23 #[.string s] w fun e w' => ∃ v, e = .returned (.tuple #[v, .int .i64 10]) ∧ WhZ w' v 0 ∧ Below w.heap.size w w' := by
  have b0 := Blk.new w 26 #[.bool false, .slice none 0 0]
  have l0 := b0.lt
  have g0 := (b0.cell 0).trans (b := some (Value.bool false)) rfl
  have g1 := (b0.cell 1).trans (b := some (Value.slice none 0 0)) rfl
  have f0 := b0.frozen 0
  have f1 := b0.frozen 1
  have bw : Below w.heap.size w (w.alloc (.cells #[.bool false, .slice none 0 0] 26)) := (by repeat (first | exact Below.refl _ _ | assumption | refine Below.alloc ?_ (by first | (simp; done) | (simp; omega) | omega) _ | refine Below.setCell ?_ (by first | (simp; done) | (simp; omega) | omega) _ | refine Below.drew ?_))
  have HD : Hid (∀ W, Calls Try.prog 52 #[.string d] W fun e w' => e = .returned (.bool true) ∧ W = w') := fun W => by
    have := decimal_any d W hsz
    rw [hdec] at this
    exact this
  have e2 : (d.toList == [48]) = true := str_is (c := 48) h48
  subst hng
  clear h48 hdec
  go_enter Try.func23, Try.ntmps23
  go_wp2_with (first | (go_at_call 51; refine (hcut.out _).mono ?_; rintro e w1 ⟨rfl, rfl⟩) | (go_at_call 52; refine (HD.out _).mono ?_; rintro e w1 ⟨rfl, rfl⟩))
  have d4 := (b0.set_ 0 (.bool false)).set_ 1 (.slice none 0 0)
  have r0 := (d4.cell 0).trans (b := some (Value.bool false)) rfl
  have r1 := (d4.cell 1).trans (b := some (Value.slice none 0 0)) rfl
  exact bodyPost_ret (v := .tuple #[.agg #[.bool false, .slice none 0 0], .int .i64 10]) (by simp [results, Try.f23, go_sem]) rfl ⟨_, rfl, whz_zero _, (by repeat (first | exact Below.refl _ _ | assumption | refine Below.alloc ?_ (by first | (simp; done) | (simp; omega) | omega) _ | refine Below.setCell ?_ (by first | (simp; done) | (simp; omega) | omega) _ | refine Below.drew ?_))⟩

set_option maxRecDepth 100000 in
set_option maxHeartbeats 2000000 in
theorem parse_long_false (s d : ByteArray) (ng : Bool) (w : World) (hcut : Hid (∀ W, Calls Try.prog 51 #[.string s, .string ⟨#[45]⟩] W fun e w' => e = .returned (.tuple #[.string d, .bool ng]) ∧ W = w')) (hsz : d.size ≤ 4611686018427387904) (hdec : isDecB (byt d) = true) (hng : ng = false) (hl : 4933 < d.size) :
    Calls Try.prog 23 #[.string s] w fun e w' => ∃ v, e = .returned (.tuple #[v, .int .i64 3]) ∧ WhZ w' v 0 ∧ Below w.heap.size w w' := by
  have b0 := Blk.new w 26 #[.bool false, .slice none 0 0]
  have l0 := b0.lt
  have g0 := (b0.cell 0).trans (b := some (Value.bool false)) rfl
  have g1 := (b0.cell 1).trans (b := some (Value.slice none 0 0)) rfl
  have f0 := b0.frozen 0
  have f1 := b0.frozen 1
  have bw : Below w.heap.size w (w.alloc (.cells #[.bool false, .slice none 0 0] 26)) := (by repeat (first | exact Below.refl _ _ | assumption | refine Below.alloc ?_ (by first | (simp; done) | (simp; omega) | omega) _ | refine Below.setCell ?_ (by first | (simp; done) | (simp; omega) | omega) _ | refine Below.drew ?_))
  have HD : Hid (∀ W, Calls Try.prog 52 #[.string d] W fun e w' => e = .returned (.bool true) ∧ W = w') := fun W => by
    have := decimal_any d W hsz
    rw [hdec] at this
    exact this
  subst hng
  go_enter Try.func23, Try.ntmps23
  go_wp2_with (first | (go_at_call 51; refine (hcut.out _).mono ?_; rintro e w1 ⟨rfl, rfl⟩) | (go_at_call 52; refine (HD.out _).mono ?_; rintro e w1 ⟨rfl, rfl⟩))
  have d4 := (b0.set_ 0 (.bool false)).set_ 1 (.slice none 0 0)
  have r0 := (d4.cell 0).trans (b := some (Value.bool false)) rfl
  have r1 := (d4.cell 1).trans (b := some (Value.slice none 0 0)) rfl
  exact bodyPost_ret (v := .tuple #[.agg #[.bool false, .slice none 0 0], .int .i64 3]) (by simp [results, Try.f23, go_sem]) rfl ⟨_, rfl, whz_zero _, (by repeat (first | exact Below.refl _ _ | assumption | refine Below.alloc ?_ (by first | (simp; done) | (simp; omega) | omega) _ | refine Below.setCell ?_ (by first | (simp; done) | (simp; omega) | omega) _ | refine Below.drew ?_))⟩

set_option maxRecDepth 100000 in
set_option maxHeartbeats 2000000 in
theorem parse_much_false (s d : ByteArray) (ng : Bool) (w : World) (hcut : Hid (∀ W, Calls Try.prog 51 #[.string s, .string ⟨#[45]⟩] W fun e w' => e = .returned (.tuple #[.string d, .bool ng]) ∧ W = w')) (hsz : d.size ≤ 4611686018427387904) (hdec : isDecB (byt d) = true) (hng : ng = false) (hl : d.size ≤ 4933) (HN : Hid (1024 < (digs (decM 0 (byt d))).length)) :
    Calls Try.prog 23 #[.string s] w fun e w' => ∃ v, e = .returned (.tuple #[v, .int .i64 3]) ∧ WhZ w' v 0 ∧ Below w.heap.size w w' := by
  have b0 := Blk.new w 26 #[.bool false, .slice none 0 0]
  have l0 := b0.lt
  have g0 := (b0.cell 0).trans (b := some (Value.bool false)) rfl
  have g1 := (b0.cell 1).trans (b := some (Value.slice none 0 0)) rfl
  have f0 := b0.frozen 0
  have f1 := b0.frozen 1
  have bw : Below w.heap.size w (w.alloc (.cells #[.bool false, .slice none 0 0] 26)) := (by repeat (first | exact Below.refl _ _ | assumption | refine Below.alloc ?_ (by first | (simp; done) | (simp; omega) | omega) _ | refine Below.setCell ?_ (by first | (simp; done) | (simp; omega) | omega) _ | refine Below.drew ?_))
  have HD : Hid (∀ W, Calls Try.prog 52 #[.string d] W fun e w' => e = .returned (.bool true) ∧ W = w') := fun W => by
    have := decimal_any d W hsz
    rw [hdec] at this
    exact this
  have HLM : Hid (∀ W, Calls Try.prog 53 #[.string d] W fun e w' => ∃ v, e = .returned v ∧ Sl w' v (digs (decM 0 (byt d))) ∧ Below W.heap.size W w') := fun W => limbsOfDigits_any d W (by omega) ((isDecB_iff _).1 hdec).2.2
  subst hng
  go_enter Try.func23, Try.ntmps23
  go_wp2_with (first | (go_at_call 51; refine (hcut.out _).mono ?_; rintro e w1 ⟨rfl, rfl⟩) | (go_at_call 52; refine (HD.out _).mono ?_; rintro e w1 ⟨rfl, rfl⟩) | (go_at_call 53; refine (HLM.out _).mono ?_; rintro e w2 ⟨u2, rfl, hs2, hb2⟩; obtain ⟨n2, A2, c2, Hn2, rfl, hs2⟩ := sl_len hs2; have hn2 := HN.out; rw [Hn2.out] at hn2; have d2 := b0.below hb2 l0; have x0 := (d2.cell 0).trans (b := some (Value.bool false)) rfl; have x1 := (d2.cell 1).trans (b := some (Value.slice none 0 0)) rfl; have y0 := d2.frozen 0; have y1 := d2.frozen 1; have z0 := d2.lt; have hn46 : n2 ≤ 70368744177664 := (by have := hs2.2.1; rw [Hn2.out] at this; exact this)))
  have d4 := (d2.set_ 0 (.bool false)).set_ 1 (.slice none 0 0)
  have r0 := (d4.cell 0).trans (b := some (Value.bool false)) rfl
  have r1 := (d4.cell 1).trans (b := some (Value.slice none 0 0)) rfl
  have bb := bw.trans (hb2.mono bw.size)
  exact bodyPost_ret (v := .tuple #[.agg #[.bool false, .slice none 0 0], .int .i64 3]) (by simp [results, Try.f23, go_sem, r0, r1]) rfl ⟨_, rfl, whz_zero _, (bb.setCell (p := ⟨w.heap.size, 0, none⟩) (by simp) _).setCell (p := ⟨w.heap.size, 1, none⟩) (by simp) _⟩

set_option maxRecDepth 100000 in
set_option maxHeartbeats 2000000 in
theorem parse_ok_false (s d : ByteArray) (ng : Bool) (w : World) (hcut : Hid (∀ W, Calls Try.prog 51 #[.string s, .string ⟨#[45]⟩] W fun e w' => e = .returned (.tuple #[.string d, .bool ng]) ∧ W = w')) (hsz : d.size ≤ 4611686018427387904) (hdec : isDecB (byt d) = true) (hng : ng = false) (hl : d.size ≤ 4933) (HN : Hid ((digs (decM 0 (byt d))).length ≤ 1024)) :
    Calls Try.prog 23 #[.string s] w fun e w' => ∃ v, e = .returned (.tuple #[v, .int .i64 0]) ∧ WhZ w' v ((decM 0 (byt d) : Nat) : Int) ∧ Below w.heap.size w w' := by
  have b0 := Blk.new w 26 #[.bool false, .slice none 0 0]
  have l0 := b0.lt
  have g0 := (b0.cell 0).trans (b := some (Value.bool false)) rfl
  have g1 := (b0.cell 1).trans (b := some (Value.slice none 0 0)) rfl
  have f0 := b0.frozen 0
  have f1 := b0.frozen 1
  have bw : Below w.heap.size w (w.alloc (.cells #[.bool false, .slice none 0 0] 26)) := (by repeat (first | exact Below.refl _ _ | assumption | refine Below.alloc ?_ (by first | (simp; done) | (simp; omega) | omega) _ | refine Below.setCell ?_ (by first | (simp; done) | (simp; omega) | omega) _ | refine Below.drew ?_))
  have HD : Hid (∀ W, Calls Try.prog 52 #[.string d] W fun e w' => e = .returned (.bool true) ∧ W = w') := fun W => by
    have := decimal_any d W hsz
    rw [hdec] at this
    exact this
  have HLM : Hid (∀ W, Calls Try.prog 53 #[.string d] W fun e w' => ∃ v, e = .returned v ∧ Sl w' v (digs (decM 0 (byt d))) ∧ Below W.heap.size W w') := fun W => limbsOfDigits_any d W (by omega) ((isDecB_iff _).1 hdec).2.2
  subst hng
  go_enter Try.func23, Try.ntmps23
  go_wp2_with (first | (go_at_call 51; refine (hcut.out _).mono ?_; rintro e w1 ⟨rfl, rfl⟩) | (go_at_call 52; refine (HD.out _).mono ?_; rintro e w1 ⟨rfl, rfl⟩) | (go_at_call 53; refine (HLM.out _).mono ?_; rintro e w2 ⟨u2, rfl, hs2, hb2⟩; obtain ⟨n2, A2, c2, Hn2, rfl, hs2⟩ := sl_len hs2; have hn2 := HN.out; rw [Hn2.out] at hn2; have d2 := b0.below hb2 l0; have x0 := (d2.cell 0).trans (b := some (Value.bool false)) rfl; have x1 := (d2.cell 1).trans (b := some (Value.slice none 0 0)) rfl; have y0 := d2.frozen 0; have y1 := d2.frozen 1; have z0 := d2.lt; have hn46 : n2 ≤ 70368744177664 := (by have := hs2.2.1; rw [Hn2.out] at this; exact this)) | (go_at_call 54; refine (signed_any _ _ _ _ _).mono ?_; rintro e w3 ⟨rfl, hb3⟩; have d3 := d2.below hb3 z0; have x3 := (d3.cell 0).trans (b := some (Value.bool false)) rfl; have x4 := (d3.cell 1).trans (b := some (Value.slice none 0 0)) rfl; have y3 := d3.frozen 0; have y4 := d3.frozen 1; have z3 := d3.lt))
  have d4 := (d3.set_ 0 (.bool (false))).set_ 1 (.slice A2 n2 c2)
  have r0 := (d4.cell 0).trans (b := some (Value.bool (false))) rfl
  have r1 := (d4.cell 1).trans (b := some (Value.slice A2 n2 c2)) rfl
  have bb := (bw.trans (hb2.mono bw.size)).trans (hb3.mono (Nat.le_trans bw.size hb2.size))
  have hs4 := (hs2.below hb3).store2 d3 (false) A2 n2 c2
  exact bodyPost_ret (v := .tuple #[.agg #[.bool (false), .slice A2 n2 c2], .int .i64 0]) (by simp [results, Try.f23, go_sem, r0, r1]) rfl ⟨_, rfl, ⟨A2, c2, by rw [sign_false Hn2.out, Int.natAbs_natCast, Hn2.out], by rw [Int.natAbs_natCast, Hn2.out]; exact hs4⟩, (bb.setCell (p := ⟨w.heap.size, 0, none⟩) (by simp) _).setCell (p := ⟨w.heap.size, 1, none⟩) (by simp) _⟩

set_option maxRecDepth 100000 in
set_option maxHeartbeats 2000000 in
theorem parse_long_true (s d : ByteArray) (ng : Bool) (w : World) (hcut : Hid (∀ W, Calls Try.prog 51 #[.string s, .string ⟨#[45]⟩] W fun e w' => e = .returned (.tuple #[.string d, .bool ng]) ∧ W = w')) (hsz : d.size ≤ 4611686018427387904) (hdec : isDecB (byt d) = true) (hng : ng = true) (h48 : byt d ≠ [48]) (hl : 4933 < d.size) :
    Calls Try.prog 23 #[.string s] w fun e w' => ∃ v, e = .returned (.tuple #[v, .int .i64 3]) ∧ WhZ w' v 0 ∧ Below w.heap.size w w' := by
  have b0 := Blk.new w 26 #[.bool false, .slice none 0 0]
  have l0 := b0.lt
  have g0 := (b0.cell 0).trans (b := some (Value.bool false)) rfl
  have g1 := (b0.cell 1).trans (b := some (Value.slice none 0 0)) rfl
  have f0 := b0.frozen 0
  have f1 := b0.frozen 1
  have bw : Below w.heap.size w (w.alloc (.cells #[.bool false, .slice none 0 0] 26)) := (by repeat (first | exact Below.refl _ _ | assumption | refine Below.alloc ?_ (by first | (simp; done) | (simp; omega) | omega) _ | refine Below.setCell ?_ (by first | (simp; done) | (simp; omega) | omega) _ | refine Below.drew ?_))
  have HD : Hid (∀ W, Calls Try.prog 52 #[.string d] W fun e w' => e = .returned (.bool true) ∧ W = w') := fun W => by
    have := decimal_any d W hsz
    rw [hdec] at this
    exact this
  subst hng
  have e2 : (d.toList == [48]) = false := str_not (c := 48) h48
  clear h48 hdec
  go_enter Try.func23, Try.ntmps23
  go_wp2_with (first | (go_at_call 51; refine (hcut.out _).mono ?_; rintro e w1 ⟨rfl, rfl⟩) | (go_at_call 52; refine (HD.out _).mono ?_; rintro e w1 ⟨rfl, rfl⟩))
  have d4 := (b0.set_ 0 (.bool false)).set_ 1 (.slice none 0 0)
  have r0 := (d4.cell 0).trans (b := some (Value.bool false)) rfl
  have r1 := (d4.cell 1).trans (b := some (Value.slice none 0 0)) rfl
  exact bodyPost_ret (v := .tuple #[.agg #[.bool false, .slice none 0 0], .int .i64 3]) (by simp [results, Try.f23, go_sem]) rfl ⟨_, rfl, whz_zero _, (by repeat (first | exact Below.refl _ _ | assumption | refine Below.alloc ?_ (by first | (simp; done) | (simp; omega) | omega) _ | refine Below.setCell ?_ (by first | (simp; done) | (simp; omega) | omega) _ | refine Below.drew ?_))⟩

set_option maxRecDepth 100000 in
set_option maxHeartbeats 2000000 in
theorem parse_much_true (s d : ByteArray) (ng : Bool) (w : World) (hcut : Hid (∀ W, Calls Try.prog 51 #[.string s, .string ⟨#[45]⟩] W fun e w' => e = .returned (.tuple #[.string d, .bool ng]) ∧ W = w')) (hsz : d.size ≤ 4611686018427387904) (hdec : isDecB (byt d) = true) (hng : ng = true) (h48 : byt d ≠ [48]) (hl : d.size ≤ 4933) (HN : Hid (1024 < (digs (decM 0 (byt d))).length)) :
    Calls Try.prog 23 #[.string s] w fun e w' => ∃ v, e = .returned (.tuple #[v, .int .i64 3]) ∧ WhZ w' v 0 ∧ Below w.heap.size w w' := by
  have b0 := Blk.new w 26 #[.bool false, .slice none 0 0]
  have l0 := b0.lt
  have g0 := (b0.cell 0).trans (b := some (Value.bool false)) rfl
  have g1 := (b0.cell 1).trans (b := some (Value.slice none 0 0)) rfl
  have f0 := b0.frozen 0
  have f1 := b0.frozen 1
  have bw : Below w.heap.size w (w.alloc (.cells #[.bool false, .slice none 0 0] 26)) := (by repeat (first | exact Below.refl _ _ | assumption | refine Below.alloc ?_ (by first | (simp; done) | (simp; omega) | omega) _ | refine Below.setCell ?_ (by first | (simp; done) | (simp; omega) | omega) _ | refine Below.drew ?_))
  have HD : Hid (∀ W, Calls Try.prog 52 #[.string d] W fun e w' => e = .returned (.bool true) ∧ W = w') := fun W => by
    have := decimal_any d W hsz
    rw [hdec] at this
    exact this
  have HLM : Hid (∀ W, Calls Try.prog 53 #[.string d] W fun e w' => ∃ v, e = .returned v ∧ Sl w' v (digs (decM 0 (byt d))) ∧ Below W.heap.size W w') := fun W => limbsOfDigits_any d W (by omega) ((isDecB_iff _).1 hdec).2.2
  subst hng
  have e2 : (d.toList == [48]) = false := str_not (c := 48) h48
  clear h48 hdec
  go_enter Try.func23, Try.ntmps23
  go_wp2_with (first | (go_at_call 51; refine (hcut.out _).mono ?_; rintro e w1 ⟨rfl, rfl⟩) | (go_at_call 52; refine (HD.out _).mono ?_; rintro e w1 ⟨rfl, rfl⟩) | (go_at_call 53; refine (HLM.out _).mono ?_; rintro e w2 ⟨u2, rfl, hs2, hb2⟩; obtain ⟨n2, A2, c2, Hn2, rfl, hs2⟩ := sl_len hs2; have hn2 := HN.out; rw [Hn2.out] at hn2; have d2 := b0.below hb2 l0; have x0 := (d2.cell 0).trans (b := some (Value.bool false)) rfl; have x1 := (d2.cell 1).trans (b := some (Value.slice none 0 0)) rfl; have y0 := d2.frozen 0; have y1 := d2.frozen 1; have z0 := d2.lt; have hn46 : n2 ≤ 70368744177664 := (by have := hs2.2.1; rw [Hn2.out] at this; exact this)))
  have d4 := (d2.set_ 0 (.bool false)).set_ 1 (.slice none 0 0)
  have r0 := (d4.cell 0).trans (b := some (Value.bool false)) rfl
  have r1 := (d4.cell 1).trans (b := some (Value.slice none 0 0)) rfl
  have bb := bw.trans (hb2.mono bw.size)
  exact bodyPost_ret (v := .tuple #[.agg #[.bool false, .slice none 0 0], .int .i64 3]) (by simp [results, Try.f23, go_sem, r0, r1]) rfl ⟨_, rfl, whz_zero _, (bb.setCell (p := ⟨w.heap.size, 0, none⟩) (by simp) _).setCell (p := ⟨w.heap.size, 1, none⟩) (by simp) _⟩

set_option maxRecDepth 100000 in
set_option maxHeartbeats 2000000 in
theorem parse_ok_true (s d : ByteArray) (ng : Bool) (w : World) (hcut : Hid (∀ W, Calls Try.prog 51 #[.string s, .string ⟨#[45]⟩] W fun e w' => e = .returned (.tuple #[.string d, .bool ng]) ∧ W = w')) (hsz : d.size ≤ 4611686018427387904) (hdec : isDecB (byt d) = true) (hng : ng = true) (h48 : byt d ≠ [48]) (hl : d.size ≤ 4933) (HN : Hid ((digs (decM 0 (byt d))).length ≤ 1024)) :
    Calls Try.prog 23 #[.string s] w fun e w' => ∃ v, e = .returned (.tuple #[v, .int .i64 0]) ∧ WhZ w' v (-((decM 0 (byt d) : Nat) : Int)) ∧ Below w.heap.size w w' := by
  have b0 := Blk.new w 26 #[.bool false, .slice none 0 0]
  have l0 := b0.lt
  have g0 := (b0.cell 0).trans (b := some (Value.bool false)) rfl
  have g1 := (b0.cell 1).trans (b := some (Value.slice none 0 0)) rfl
  have f0 := b0.frozen 0
  have f1 := b0.frozen 1
  have bw : Below w.heap.size w (w.alloc (.cells #[.bool false, .slice none 0 0] 26)) := (by repeat (first | exact Below.refl _ _ | assumption | refine Below.alloc ?_ (by first | (simp; done) | (simp; omega) | omega) _ | refine Below.setCell ?_ (by first | (simp; done) | (simp; omega) | omega) _ | refine Below.drew ?_))
  have HD : Hid (∀ W, Calls Try.prog 52 #[.string d] W fun e w' => e = .returned (.bool true) ∧ W = w') := fun W => by
    have := decimal_any d W hsz
    rw [hdec] at this
    exact this
  have HLM : Hid (∀ W, Calls Try.prog 53 #[.string d] W fun e w' => ∃ v, e = .returned v ∧ Sl w' v (digs (decM 0 (byt d))) ∧ Below W.heap.size W w') := fun W => limbsOfDigits_any d W (by omega) ((isDecB_iff _).1 hdec).2.2
  subst hng
  have e2 : (d.toList == [48]) = false := str_not (c := 48) h48
  clear h48 hdec
  go_enter Try.func23, Try.ntmps23
  go_wp2_with (first | (go_at_call 51; refine (hcut.out _).mono ?_; rintro e w1 ⟨rfl, rfl⟩) | (go_at_call 52; refine (HD.out _).mono ?_; rintro e w1 ⟨rfl, rfl⟩) | (go_at_call 53; refine (HLM.out _).mono ?_; rintro e w2 ⟨u2, rfl, hs2, hb2⟩; obtain ⟨n2, A2, c2, Hn2, rfl, hs2⟩ := sl_len hs2; have hn2 := HN.out; rw [Hn2.out] at hn2; have d2 := b0.below hb2 l0; have x0 := (d2.cell 0).trans (b := some (Value.bool false)) rfl; have x1 := (d2.cell 1).trans (b := some (Value.slice none 0 0)) rfl; have y0 := d2.frozen 0; have y1 := d2.frozen 1; have z0 := d2.lt; have hn46 : n2 ≤ 70368744177664 := (by have := hs2.2.1; rw [Hn2.out] at this; exact this)) | (go_at_call 54; refine (signed_any _ _ _ _ _).mono ?_; rintro e w3 ⟨rfl, hb3⟩; have d3 := d2.below hb3 z0; have x3 := (d3.cell 0).trans (b := some (Value.bool false)) rfl; have x4 := (d3.cell 1).trans (b := some (Value.slice none 0 0)) rfl; have y3 := d3.frozen 0; have y4 := d3.frozen 1; have z3 := d3.lt))
  have d4 := (d3.set_ 0 (.bool (decide (0 < n2)))).set_ 1 (.slice A2 n2 c2)
  have r0 := (d4.cell 0).trans (b := some (Value.bool (decide (0 < n2)))) rfl
  have r1 := (d4.cell 1).trans (b := some (Value.slice A2 n2 c2)) rfl
  have bb := (bw.trans (hb2.mono bw.size)).trans (hb3.mono (Nat.le_trans bw.size hb2.size))
  have hs4 := (hs2.below hb3).store2 d3 (decide (0 < n2)) A2 n2 c2
  exact bodyPost_ret (v := .tuple #[.agg #[.bool (decide (0 < n2)), .slice A2 n2 c2], .int .i64 0]) (by simp [results, Try.f23, go_sem, r0, r1]) rfl ⟨_, rfl, ⟨A2, c2, by rw [sign_true Hn2.out, Int.natAbs_neg, Int.natAbs_natCast, Hn2.out], by rw [Int.natAbs_neg, Int.natAbs_natCast, Hn2.out]; exact hs4⟩, (bb.setCell (p := ⟨w.heap.size, 0, none⟩) (by simp) _).setCell (p := ⟨w.heap.size, 1, none⟩) (by simp) _⟩

/-- Whether a text is a decimal form. -/
def textB (s : ByteArray) : Bool := isDecB (byt (unsigned s)) && !(signedB s && decide (byt (unsigned s) = [48]))
/-- The number that a text stands for. -/
def textZ (s : ByteArray) : Int := if signedB s then -((decM 0 (byt (unsigned s)) : Nat) : Int) else ((decM 0 (byt (unsigned s)) : Nat) : Int)

theorem parse_no {s : ByteArray} {w : World} (hsz : s.size ≤ 4611686018427387904) (h : textB s = false) :
    Calls Try.prog 23 #[.string s] w fun e w' => ∃ v, e = .returned (.tuple #[v, .int .i64 10]) ∧ WhZ w' v 0 ∧ Below w.heap.size w w' := by
  have hs2 : (unsigned s).size ≤ 4611686018427387904 := Nat.le_trans (unsigned_size s) hsz
  unfold textB at h
  cases hd : isDecB (byt (unsigned s)) with
  | false => exact parse_not s (unsigned s) (signedB s) w (fun W => cut_any s W) hs2 hd
  | true =>
    rw [hd] at h
    simp at h
    exact parse_minus s (unsigned s) (signedB s) w (fun W => cut_any s W) hs2 hd h.1 h.2

theorem parse_yes {s : ByteArray} {w : World} (hsz : s.size ≤ 4933) (h : textB s = true) (hl : Lz 1024 (textZ s)) :
    Calls Try.prog 23 #[.string s] w fun e w' => ∃ v, e = .returned (.tuple #[v, .int .i64 0]) ∧ WhZ w' v (textZ s) ∧ Below w.heap.size w w' := by
  have hs2 : (unsigned s).size ≤ 4933 := Nat.le_trans (unsigned_size s) hsz
  unfold textB at h
  simp only [Bool.and_eq_true] at h
  have hz : (textZ s).natAbs = decM 0 (byt (unsigned s)) := by
    unfold textZ
    split
    · rw [Int.natAbs_neg, Int.natAbs_natCast]
    · rw [Int.natAbs_natCast]
  have hn : (digs (decM 0 (byt (unsigned s)))).length ≤ 1024 := by rw [← hz]; exact hl
  cases hg : signedB s with
  | false =>
    have e : textZ s = ((decM 0 (byt (unsigned s)) : Nat) : Int) := by unfold textZ; rw [hg]; rfl
    rw [e]
    exact parse_ok_false s (unsigned s) (signedB s) w (fun W => cut_any s W) (by omega) h.1 hg hs2 hn
  | true =>
    have e : textZ s = -((decM 0 (byt (unsigned s)) : Nat) : Int) := by unfold textZ; rw [hg]; rfl
    rw [e]
    have h48 : byt (unsigned s) ≠ [48] := by
      have := h.2
      rw [hg] at this
      simpa using this
    exact parse_ok_true s (unsigned s) (signedB s) w (fun W => cut_any s W) (by omega) h.1 hg h48 hs2 hn

/-- A text that is read is the text of what was read. -/
theorem text_back {s : ByteArray} (h : textB s = true) : form (decide (textZ s < 0)) (textZ s).natAbs = byt s := by
  unfold textB at h
  simp only [Bool.and_eq_true] at h
  have hd := isDec_form ((isDecB_iff _).1 h.1)
  have hu := unsigned_byt s
  have hs := signedB_byt s
  cases hg : signedB s with
  | false =>
    have e : textZ s = ((decM 0 (byt (unsigned s)) : Nat) : Int) := by unfold textZ; rw [hg]; rfl
    rw [hg] at hu
    simp at hu
    rw [e, Int.natAbs_natCast, show decide (((decM 0 (byt (unsigned s)) : Nat) : Int) < 0) = false by simp]
    unfold form
    rw [hd, hu]
    simp
  | true =>
    have e : textZ s = -((decM 0 (byt (unsigned s)) : Nat) : Int) := by unfold textZ; rw [hg]; rfl
    have h48 : byt (unsigned s) ≠ [48] := by
      have := h.2
      rw [hg] at this
      simpa using this
    have hne : decM 0 (byt (unsigned s)) ≠ 0 := by
      intro e0
      rw [e0] at hd
      exact h48 (by rw [← hd]; rfl)
    rw [hg] at hu
    simp at hu
    rw [hg] at hs
    rw [e, Int.natAbs_neg, Int.natAbs_natCast, show decide (-((decM 0 (byt (unsigned s)) : Nat) : Int) < 0) = true by simp; omega]
    unfold form
    rw [hd, hu]
    cases hb : byt s with
    | nil => rw [hb] at hs; simp at hs
    | cons c r =>
      rw [hb] at hs
      simp at hs
      rw [← hs]
      rfl

/-- The text of a number is read as the number. -/
theorem text_forth (x : Bool) (n : Nat) (hx : x = true → n ≠ 0) : textB (strOfNums (asInts (form x n))) = true ∧ textZ (strOfNums (asInts (form x n))) = (if x then -(n : Int) else (n : Int)) ∧ byt (strOfNums (asInts (form x n))) = form x n := by
  have hf := form_isDec n
  have hlt : ∀ y ∈ form x n, y < 256 := by
    intro y hy
    unfold form at hy
    rcases List.mem_append.1 hy with h | h
    · cases x <;> simp at h
      omega
    · have := hf.1.2.2 y h
      omega
  have hb := byt_str hlt
  generalize hS : strOfNums (asInts (form x n)) = S at *
  have hhead : ∀ c, (((tens n).map (48 + ·)).reverse).head? = some c → c ≠ 45 := by
    intro c hc
    have := hf.1.2.2 c (List.mem_of_mem_head? hc)
    omega
  have hsg : signedB S = x := by
    rw [signedB_byt, hb]
    unfold form
    cases x
    · show ((((tens n).map (48 + ·)).reverse).head? == some 45) = false
      cases hc : (((tens n).map (48 + ·)).reverse).head? with
      | none => rfl
      | some c =>
        have h45 := hhead c hc
        exact beq_eq_false_iff_ne.2 (fun e => h45 (by injection e))
    · simp
  have hu : byt (unsigned S) = ((tens n).map (48 + ·)).reverse := by
    rw [unsigned_byt, hsg, hb]
    unfold form
    cases x <;> simp
  refine ⟨?_, ?_, hb⟩
  · unfold textB
    rw [hu, hsg, (isDecB_iff _).2 hf.1]
    cases x
    · rfl
    · have hn := hx rfl
      have h48 : ((tens n).map (48 + ·)).reverse ≠ [48] := by
        intro e
        have h2 := hf.2
        rw [e] at h2
        exact hn (by rw [← h2]; rfl)
      rw [decide_eq_false h48]
      rfl
  · unfold textZ
    rw [hsg, hu, hf.2]
end Go.Proofs.Ytgnidjhfiagfnaa
