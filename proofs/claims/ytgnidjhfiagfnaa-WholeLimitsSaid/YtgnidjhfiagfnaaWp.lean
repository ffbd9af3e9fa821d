/- Quotient and remainder of valid numbers. Conditions: their absolute values can be divided. -/
import Derived.Test.YtgnidjhfiagfnaaWo
namespace Go.Proofs.Ytgnidjhfiagfnaa
open Go.RowKit

theorem sl_len {w : World} {v : Value} {l : List Nat} (h : Sl w v l) : ∃ (n : Nat) (A : Option Addr) (c : Nat), Hid (l.length = n) ∧ v = .slice A n c ∧ Sl w (.slice A n c) l := by
  obtain ⟨h1, h2, A, c, rfl, h3⟩ := h
  exact ⟨_, A, c, rfl, rfl, h1, h2, A, c, rfl, h3⟩

/-- Absolute values that can be divided. -/
def DivC (la lb : List Nat) : Prop :=
  ∀ (W : World) (va vb : Value), Sl W va la → Sl W vb lb → Calls Try.prog 58 #[va, vb] W fun e w' => ∃ q r, e = .returned (.tuple #[q, r]) ∧ Sl w' q (digs (val la / val lb)) ∧ Sl w' r (digs (val la % val lb)) ∧ Below W.heap.size W w'

/-- The quotient's and the remainder's absolute values when the quotient is rounded down. -/
def qN (x y : Bool) (a b : Nat) : Nat := if x != y && decide (a % b ≠ 0) then a / b + 1 else a / b
def rN (x y : Bool) (a b : Nat) : Nat := if x != y && decide (a % b ≠ 0) then b - a % b else a % b
def sgn (x : Bool) (n : Nat) : Int := if x then -(n : Int) else (n : Int)

/-- The four variables that hold numbers. -/
structure Boxes (W : World) (N : Nat) (x y : Bool) (sa sb : Value) : Prop where
  b0 : Blk W N 26 #[.bool x, sa]
  b1 : Blk W (N + 1) 26 #[.bool y, sb]
  b2 : Blk W (N + 2) 26 #[.bool false, .slice none 0 0]
  b3 : Blk W (N + 3) 26 #[.bool false, .slice none 0 0]
theorem Boxes.below {W W' : World} {N : Nat} {x y : Bool} {sa sb : Value} (h : Boxes W N x y sa sb) (hb : Below W.heap.size W W') : Boxes W' N x y sa sb :=
  ⟨h.b0.below hb h.b0.lt, h.b1.below hb h.b1.lt, h.b2.below hb h.b2.lt, h.b3.below hb h.b3.lt⟩

theorem cell_drew {w : World} {a : Addr} {v : Value} (h : w.cell? a = some v) : w.drew.cell? a = some v := h
theorem pos_digs {n : Nat} (h : n ≠ 0) : 0 < (digs n).length := by
  rcases Nat.eq_zero_or_pos (digs n).length with h1 | h1
  · exact absurd (digs_eq_nil.1 (List.eq_nil_of_length_eq_zero h1)) h
  · exact h1
theorem digs_one : digs 1 = [1] := by rw [digs_pos (by omega), show 1 / 65536 = 0 from rfl, digs_zero]
theorem small_len {l : List Nat} (h : l.length ≤ 1024) : l.length ≤ 1099511627000 := by omega
theorem small_div0 {a b k : Nat} (h : a < 65536 ^ k) : (digs (a / b)).length ≤ k := digs_length (Nat.lt_of_le_of_lt (Nat.div_le_self _ _) h)
theorem digs_mono {m n : Nat} (h : m ≤ n) : (digs m).length ≤ (digs n).length :=
  digs_length (Nat.lt_of_le_of_lt h (lt_of_digs_length (Nat.le_refl _)))
theorem digs_val_len {l : List Nat} (h : Limbs l) : (digs (val l)).length ≤ l.length := digs_length (val_lt h)
set_option maxRecDepth 100000 in
set_option maxHeartbeats 2000000 in
theorem divmod_pp {la lb : List Nat} {A B : Option Addr} {na nb ca cb : Nat} {w : World} (hsa : Sl w (.slice A na ca) la) (hsb : Sl w (.slice B nb cb) lb) (hna : Hid (la.length = na)) (hnb : Hid (lb.length = nb)) (hv : (validB false la && validB false lb) = true) (hdiv : DivC la lb) (hb0 : 0 < nb) (_hla : Hid ((digs (val la / val lb)).length ≤ 1099511627000 ∧ lb.length ≤ 1099511627000 ∧ val lb ≠ 0 ∧ (digs (val la % val lb)).length ≤ 1099511627000)) :
    Calls Try.prog 29 #[.agg #[.bool false, .slice A na ca], .agg #[.bool false, .slice B nb cb]] w fun e w' => ∃ q r, e = .returned (.tuple #[q, r, .int .i64 0]) ∧ WhZ w' q (sgn false (val la / val lb)) ∧ WhZ w' r (sgn false (val la % val lb)) ∧ Below w.heap.size w w' := by
  obtain ⟨W0, hW0⟩ : ∃ W0, ((((w.alloc (.cells #[.bool false, .slice A na ca] 26)).alloc (.cells #[.bool false, .slice B nb cb] 26)).alloc (.cells #[.bool false, .slice none 0 0] 26)).alloc (.cells #[.bool false, .slice none 0 0] 26)).alloc (.cells #[.bool false, .slice A na ca, .bool false, .slice B nb cb] 26) = W0 := ⟨_, rfl⟩
  have b0 : Blk W0 w.heap.size 26 #[.bool false, .slice A na ca] := by rw [← hW0]; exact ((((Blk.new w _ _).alloc _).alloc _).alloc _).alloc _
  have b1 : Blk W0 (w.heap.size + 1) 26 #[.bool false, .slice B nb cb] := by
    rw [← hW0]
    have := (((Blk.new (w.alloc (.cells #[.bool false, .slice A na ca] 26)) 26 #[.bool false, .slice B nb cb]).alloc (.cells #[.bool false, .slice none 0 0] 26)).alloc (.cells #[.bool false, .slice none 0 0] 26)).alloc (.cells #[.bool false, .slice A na ca, .bool false, .slice B nb cb] 26)
    rwa [World.size_alloc] at this
  have b2 : Blk W0 (w.heap.size + 2) 26 #[.bool false, .slice none 0 0] := by
    rw [← hW0]
    have := ((Blk.new ((w.alloc (.cells #[.bool false, .slice A na ca] 26)).alloc (.cells #[.bool false, .slice B nb cb] 26)) 26 #[.bool false, .slice none 0 0]).alloc (.cells #[.bool false, .slice none 0 0] 26)).alloc (.cells #[.bool false, .slice A na ca, .bool false, .slice B nb cb] 26)
    rwa [World.size_alloc, World.size_alloc] at this
  have b3 : Blk W0 (w.heap.size + 3) 26 #[.bool false, .slice none 0 0] := by
    rw [← hW0]
    have := (Blk.new (((w.alloc (.cells #[.bool false, .slice A na ca] 26)).alloc (.cells #[.bool false, .slice B nb cb] 26)).alloc (.cells #[.bool false, .slice none 0 0] 26)) 26 #[.bool false, .slice none 0 0]).alloc (.cells #[.bool false, .slice A na ca, .bool false, .slice B nb cb] 26)
    rwa [World.size_alloc, World.size_alloc, World.size_alloc] at this
  have b4 : Blk W0 (w.heap.size + 1 + 1 + 1 + 1) 26 #[.bool false, .slice A na ca, .bool false, .slice B nb cb] := by
    rw [← hW0]
    have := (Blk.new ((((w.alloc (.cells #[.bool false, .slice A na ca] 26)).alloc (.cells #[.bool false, .slice B nb cb] 26)).alloc (.cells #[.bool false, .slice none 0 0] 26)).alloc (.cells #[.bool false, .slice none 0 0] 26)) 26 #[.bool false, .slice A na ca, .bool false, .slice B nb cb])
    rwa [World.size_alloc, World.size_alloc, World.size_alloc, World.size_alloc] at this
  have bw : Below w.heap.size w W0 := by rw [← hW0]; exact (by repeat (first | exact Below.refl _ _ | assumption | refine Below.alloc ?_ (by first | (simp; done) | (simp; omega) | omega) _ | refine Below.setCell ?_ (by first | (simp; done) | (simp; omega) | omega) _ | refine Below.drew ?_))
  have HW : Hid (((((w.alloc (.cells #[.bool false, .slice A na ca] 26)).alloc (.cells #[.bool false, .slice B nb cb] 26)).alloc (.cells #[.bool false, .slice none 0 0] 26)).alloc (.cells #[.bool false, .slice none 0 0] 26)).alloc (.cells #[.bool false, .slice A na ca, .bool false, .slice B nb cb] 26) = W0) := hW0
  clear hW0
  have hav := allValid2 (hsa.below bw) hna (hsb.below bw) hnb b4
  rw [hv] at hav
  have HJ : Hid (Calls Try.prog 48 #[.slice (some ⟨w.heap.size + 1 + 1 + 1 + 1, 0, none⟩) 2 2] W0 fun e w' => e = .returned (.bool true) ∧ Below W0.heap.size W0 w') := hav
  have x0 : Boxes W0 w.heap.size false false (.slice A na ca) (.slice B nb cb) := ⟨b0, b1, b2, b3⟩
  have s0 := hsa.below bw
  have t0 := hsb.below bw
  have hbt : ((nb : Int) == 0) = false := by simp; omega
  clear hav hv hsa hsb b0 b1 b2 b3 b4
  go_enter Try.func29, Try.ntmps29
  go_wp2_with (first
    | (rw [HW.out]; go_at_call 48; refine HJ.out.mono ?_; clear HJ; rintro e w1 ⟨rfl, hb1⟩; have x1 := x0.below hb1; have s1 := s0.below hb1; have t1 := t0.below hb1; have g0 := (x1.b0.cell 0).trans (b := some (Value.bool false)) rfl; have g1 := (x1.b0.cell 1).trans (b := some (Value.slice A na ca)) rfl; have i0 := (x1.b1.cell 0).trans (b := some (Value.bool false)) rfl; have i1 := (x1.b1.cell 1).trans (b := some (Value.slice B nb cb)) rfl; have l0 := x1.b0.lt; have l1 := x1.b1.lt)
    | (go_at_call 58; refine (hdiv _ _ _ s1 t1).mono ?_; rintro e w2 ⟨q, r, rfl, hq, hr, hb2⟩; have x2 := x1.below hb2; have t2 := t1.below hb2; obtain ⟨nq, Aq, cq, Hnq, rfl, hq⟩ := sl_len hq; obtain ⟨nr, Ar, cr, Hnr, rfl, hr⟩ := sl_len hr; have g0k := (x2.b0.cell 0).trans (b := some (Value.bool false)) rfl; have g1k := (x2.b0.cell 1).trans (b := some (Value.slice A na ca)) rfl; have i0k := (x2.b1.cell 0).trans (b := some (Value.bool false)) rfl; have i1k := (x2.b1.cell 1).trans (b := some (Value.slice B nb cb)) rfl; have l0k := x2.b0.lt; have l1k := x2.b1.lt))
  have B1 := Nat.le_trans bw.size hb1.size
  have bf := (bw.trans (hb1.mono bw.size)).trans (hb2.mono B1)
  clear hdiv HW x0 x1 s0 t0 s1 t1 t2
  have tok1 : True := trivial
  have z2 := x2.b2
  have z3 := x2.b3
  have ly := z2.lt
  have lz := z3.lt
  have qq := hq
  have rr := hr
  go_region_held3 (fun w' => w'.cell? ⟨w.heap.size, 0, none⟩ = some (.bool false) ∧ w'.cell? ⟨w.heap.size + 1, 0, none⟩ = some (.bool false))
    (first | (with_reducible exact ⟨cell_drew g0k, cell_drew i0k⟩) | (with_reducible exact ⟨ka, kb⟩) | (with_reducible exact ⟨ma, mb⟩) | (refine ⟨?_, ?_⟩ <;> (simp [go_sem, ma, mb]; done)))
    (first | (go_at_call 54; have _t := tok1; clear tok1; refine (signed_any _ _ _ _ _).mono ?_; rintro e wA ⟨rfl, hbx⟩; have hbA := below_of_drew hbx; clear hbx; have ka := (hbA.cell (p := ⟨w.heap.size, 0, none⟩) l0k).trans g0k; have kb := (hbA.cell (p := ⟨w.heap.size + 1, 0, none⟩) l1k).trans i0k) | (go_at_call 54; refine (signed_any _ _ _ _ _).mono ?_; rintro e wB ⟨rfl, hbB⟩; have ma := (hbB.cell (p := ⟨w.heap.size, 0, none⟩) (Nat.lt_of_lt_of_le l0k hbA.size)).trans ka; have mb := (hbB.cell (p := ⟨w.heap.size + 1, 0, none⟩) (Nat.lt_of_lt_of_le l1k hbA.size)).trans kb; have y2 := (z2.below hbA ly).below hbB (Nat.lt_of_lt_of_le ly hbA.size); have y3 := (z3.below hbA lz).below hbB (Nat.lt_of_lt_of_le lz hbA.size); have j0 := (y2.cell 0).trans (b := some (Value.bool false)) rfl; have j1 := (y2.cell 1).trans (b := some (Value.slice none 0 0)) rfl; have j2 := (y3.cell 0).trans (b := some (Value.bool false)) rfl; have j3 := (y3.cell 1).trans (b := some (Value.slice none 0 0)) rfl; have u0 := y2.frozen 0; have u1 := y2.frozen 1; have u2 := y3.frozen 0; have u3 := y3.frozen 1; have u4 := y2.lt; have u5 := y3.lt))
  go_wp2
  have p2 := (y2.set_ 0 (.bool (false))).set_ 1 (.slice Aq nq cq)
  have p3 := (y3.far (p := ⟨w.heap.size + 2, 0, none⟩) (by simp) (.bool (false))).far (p := ⟨w.heap.size + 2, 1, none⟩) (by simp) (.slice Aq nq cq)
  have p4 := (p3.set_ 0 (.bool (false))).set_ 1 (.slice Ar nr cr)
  have p5 := (p2.far (p := ⟨w.heap.size + 3, 0, none⟩) (by simp) (.bool (false))).far (p := ⟨w.heap.size + 3, 1, none⟩) (by simp) (.slice Ar nr cr)
  have r0 := (p5.cell 0).trans (b := some (Value.bool (false))) rfl
  have r1 := (p5.cell 1).trans (b := some (Value.slice Aq nq cq)) rfl
  have r2 := (p4.cell 0).trans (b := some (Value.bool (false))) rfl
  have r3 := (p4.cell 1).trans (b := some (Value.slice Ar nr cr)) rfl
  have qf := (((qq.below hbA).below hbB).store2 y2 (false) Aq nq cq).store2 p3 (false) Ar nr cr
  have rf := (((rr.below hbA).below hbB).store2 y2 (false) Aq nq cq).store2 p3 (false) Ar nr cr
  have bz := (bf.trans (hbA.mono bf.size)).trans (hbB.mono (Nat.le_trans bf.size hbA.size))
  refine bodyPost_ret (v := .tuple #[.agg #[.bool (false), .slice Aq nq cq], .agg #[.bool (false), .slice Ar nr cr], .int .i64 0]) (by simp [results, Try.f29, go_sem, r0, r1, r2, r3]) rfl
    ⟨_, _, rfl, ?_, ?_, (((bz.setCell (p := ⟨w.heap.size + 2, 0, none⟩) (by simp) _).setCell (p := ⟨w.heap.size + 2, 1, none⟩) (by simp) _).setCell (p := ⟨w.heap.size + 3, 0, none⟩) (by simp) _).setCell (p := ⟨w.heap.size + 3, 1, none⟩) (by simp) _⟩
  · have := signed_z (x := false) (m := val la / val lb) (z := sgn false (val la / val lb)) (A := Aq) (c := cq) rfl (by rw [Hnq.out]; exact qf)
    rw [Hnq.out] at this
    exact this
  · have := signed_z (x := false) (m := val la % val lb) (z := sgn false (val la % val lb)) (A := Ar) (c := cr) rfl (by rw [Hnr.out]; exact rf)
    rw [Hnr.out] at this
    exact this

set_option maxRecDepth 100000 in
set_option maxHeartbeats 2000000 in
theorem divmod_pn {la lb : List Nat} {A B : Option Addr} {na nb ca cb : Nat} {w : World} (hsa : Sl w (.slice A na ca) la) (hsb : Sl w (.slice B nb cb) lb) (hna : Hid (la.length = na)) (hnb : Hid (lb.length = nb)) (hv : (validB false la && validB true lb) = true) (hdiv : DivC la lb) (hb0 : 0 < nb) (_hla : Hid ((digs (val la / val lb)).length ≤ 1099511627000 ∧ lb.length ≤ 1099511627000 ∧ val lb ≠ 0 ∧ (digs (val la % val lb)).length ≤ 1099511627000)) (hra : Hid (val la % val lb = 0)) :
    Calls Try.prog 29 #[.agg #[.bool false, .slice A na ca], .agg #[.bool true, .slice B nb cb]] w fun e w' => ∃ q r, e = .returned (.tuple #[q, r, .int .i64 0]) ∧ WhZ w' q (sgn true (val la / val lb)) ∧ WhZ w' r (sgn true (val la % val lb)) ∧ Below w.heap.size w w' := by
  obtain ⟨W0, hW0⟩ : ∃ W0, ((((w.alloc (.cells #[.bool false, .slice A na ca] 26)).alloc (.cells #[.bool true, .slice B nb cb] 26)).alloc (.cells #[.bool false, .slice none 0 0] 26)).alloc (.cells #[.bool false, .slice none 0 0] 26)).alloc (.cells #[.bool false, .slice A na ca, .bool true, .slice B nb cb] 26) = W0 := ⟨_, rfl⟩
  have b0 : Blk W0 w.heap.size 26 #[.bool false, .slice A na ca] := by rw [← hW0]; exact ((((Blk.new w _ _).alloc _).alloc _).alloc _).alloc _
  have b1 : Blk W0 (w.heap.size + 1) 26 #[.bool true, .slice B nb cb] := by
    rw [← hW0]
    have := (((Blk.new (w.alloc (.cells #[.bool false, .slice A na ca] 26)) 26 #[.bool true, .slice B nb cb]).alloc (.cells #[.bool false, .slice none 0 0] 26)).alloc (.cells #[.bool false, .slice none 0 0] 26)).alloc (.cells #[.bool false, .slice A na ca, .bool true, .slice B nb cb] 26)
    rwa [World.size_alloc] at this
  have b2 : Blk W0 (w.heap.size + 2) 26 #[.bool false, .slice none 0 0] := by
    rw [← hW0]
    have := ((Blk.new ((w.alloc (.cells #[.bool false, .slice A na ca] 26)).alloc (.cells #[.bool true, .slice B nb cb] 26)) 26 #[.bool false, .slice none 0 0]).alloc (.cells #[.bool false, .slice none 0 0] 26)).alloc (.cells #[.bool false, .slice A na ca, .bool true, .slice B nb cb] 26)
    rwa [World.size_alloc, World.size_alloc] at this
  have b3 : Blk W0 (w.heap.size + 3) 26 #[.bool false, .slice none 0 0] := by
    rw [← hW0]
    have := (Blk.new (((w.alloc (.cells #[.bool false, .slice A na ca] 26)).alloc (.cells #[.bool true, .slice B nb cb] 26)).alloc (.cells #[.bool false, .slice none 0 0] 26)) 26 #[.bool false, .slice none 0 0]).alloc (.cells #[.bool false, .slice A na ca, .bool true, .slice B nb cb] 26)
    rwa [World.size_alloc, World.size_alloc, World.size_alloc] at this
  have b4 : Blk W0 (w.heap.size + 1 + 1 + 1 + 1) 26 #[.bool false, .slice A na ca, .bool true, .slice B nb cb] := by
    rw [← hW0]
    have := (Blk.new ((((w.alloc (.cells #[.bool false, .slice A na ca] 26)).alloc (.cells #[.bool true, .slice B nb cb] 26)).alloc (.cells #[.bool false, .slice none 0 0] 26)).alloc (.cells #[.bool false, .slice none 0 0] 26)) 26 #[.bool false, .slice A na ca, .bool true, .slice B nb cb])
    rwa [World.size_alloc, World.size_alloc, World.size_alloc, World.size_alloc] at this
  have bw : Below w.heap.size w W0 := by rw [← hW0]; exact (by repeat (first | exact Below.refl _ _ | assumption | refine Below.alloc ?_ (by first | (simp; done) | (simp; omega) | omega) _ | refine Below.setCell ?_ (by first | (simp; done) | (simp; omega) | omega) _ | refine Below.drew ?_))
  have HW : Hid (((((w.alloc (.cells #[.bool false, .slice A na ca] 26)).alloc (.cells #[.bool true, .slice B nb cb] 26)).alloc (.cells #[.bool false, .slice none 0 0] 26)).alloc (.cells #[.bool false, .slice none 0 0] 26)).alloc (.cells #[.bool false, .slice A na ca, .bool true, .slice B nb cb] 26) = W0) := hW0
  clear hW0
  have hav := allValid2 (hsa.below bw) hna (hsb.below bw) hnb b4
  rw [hv] at hav
  have HJ : Hid (Calls Try.prog 48 #[.slice (some ⟨w.heap.size + 1 + 1 + 1 + 1, 0, none⟩) 2 2] W0 fun e w' => e = .returned (.bool true) ∧ Below W0.heap.size W0 w') := hav
  have x0 : Boxes W0 w.heap.size false true (.slice A na ca) (.slice B nb cb) := ⟨b0, b1, b2, b3⟩
  have s0 := hsa.below bw
  have t0 := hsb.below bw
  have hbt : ((nb : Int) == 0) = false := by simp; omega
  clear hav hv hsa hsb b0 b1 b2 b3 b4
  go_enter Try.func29, Try.ntmps29
  go_wp2_with (first
    | (rw [HW.out]; go_at_call 48; refine HJ.out.mono ?_; clear HJ; rintro e w1 ⟨rfl, hb1⟩; have x1 := x0.below hb1; have s1 := s0.below hb1; have t1 := t0.below hb1; have g0 := (x1.b0.cell 0).trans (b := some (Value.bool false)) rfl; have g1 := (x1.b0.cell 1).trans (b := some (Value.slice A na ca)) rfl; have i0 := (x1.b1.cell 0).trans (b := some (Value.bool true)) rfl; have i1 := (x1.b1.cell 1).trans (b := some (Value.slice B nb cb)) rfl; have l0 := x1.b0.lt; have l1 := x1.b1.lt)
    | (go_at_call 58; refine (hdiv _ _ _ s1 t1).mono ?_; rintro e w2 ⟨q, r, rfl, hq, hr, hb2⟩; have x2 := x1.below hb2; have t2 := t1.below hb2; obtain ⟨nq, Aq, cq, Hnq, rfl, hq⟩ := sl_len hq; obtain ⟨nr, Ar, cr, Hnr, rfl, hr⟩ := sl_len hr; have g0k := (x2.b0.cell 0).trans (b := some (Value.bool false)) rfl; have g1k := (x2.b0.cell 1).trans (b := some (Value.slice A na ca)) rfl; have i0k := (x2.b1.cell 0).trans (b := some (Value.bool true)) rfl; have i1k := (x2.b1.cell 1).trans (b := some (Value.slice B nb cb)) rfl; have l0k := x2.b0.lt; have l1k := x2.b1.lt; have hnr : nr = 0 := (by rw [← Hnr.out, hra.out, digs_zero]; rfl); subst hnr))
  have B1 := Nat.le_trans bw.size hb1.size
  have bf := (bw.trans (hb1.mono bw.size)).trans (hb2.mono B1)
  clear hdiv HW x0 x1 s0 t0 s1 t1 t2
  have tok1 : True := trivial
  have z2 := x2.b2
  have z3 := x2.b3
  have ly := z2.lt
  have lz := z3.lt
  have qq := hq
  have rr := hr
  go_region_held3 (fun w' => w'.cell? ⟨w.heap.size, 0, none⟩ = some (.bool false) ∧ w'.cell? ⟨w.heap.size + 1, 0, none⟩ = some (.bool true))
    (first | (with_reducible exact ⟨cell_drew g0k, cell_drew i0k⟩) | (with_reducible exact ⟨ka, kb⟩) | (with_reducible exact ⟨ma, mb⟩) | (refine ⟨?_, ?_⟩ <;> (simp [go_sem, ma, mb]; done)))
    (first | (go_at_call 54; have _t := tok1; clear tok1; refine (signed_any _ _ _ _ _).mono ?_; rintro e wA ⟨rfl, hbx⟩; have hbA := below_of_drew hbx; clear hbx; have ka := (hbA.cell (p := ⟨w.heap.size, 0, none⟩) l0k).trans g0k; have kb := (hbA.cell (p := ⟨w.heap.size + 1, 0, none⟩) l1k).trans i0k) | (go_at_call 54; refine (signed_any _ _ _ _ _).mono ?_; rintro e wB ⟨rfl, hbB⟩; have ma := (hbB.cell (p := ⟨w.heap.size, 0, none⟩) (Nat.lt_of_lt_of_le l0k hbA.size)).trans ka; have mb := (hbB.cell (p := ⟨w.heap.size + 1, 0, none⟩) (Nat.lt_of_lt_of_le l1k hbA.size)).trans kb; have y2 := (z2.below hbA ly).below hbB (Nat.lt_of_lt_of_le ly hbA.size); have y3 := (z3.below hbA lz).below hbB (Nat.lt_of_lt_of_le lz hbA.size); have j0 := (y2.cell 0).trans (b := some (Value.bool false)) rfl; have j1 := (y2.cell 1).trans (b := some (Value.slice none 0 0)) rfl; have j2 := (y3.cell 0).trans (b := some (Value.bool false)) rfl; have j3 := (y3.cell 1).trans (b := some (Value.slice none 0 0)) rfl; have u0 := y2.frozen 0; have u1 := y2.frozen 1; have u2 := y3.frozen 0; have u3 := y3.frozen 1; have u4 := y2.lt; have u5 := y3.lt))
  go_wp2
  have p2 := (y2.set_ 0 (.bool (decide (0 < nq)))).set_ 1 (.slice Aq nq cq)
  have p3 := (y3.far (p := ⟨w.heap.size + 2, 0, none⟩) (by simp) (.bool (decide (0 < nq)))).far (p := ⟨w.heap.size + 2, 1, none⟩) (by simp) (.slice Aq nq cq)
  have p4 := (p3.set_ 0 (.bool (false))).set_ 1 (.slice Ar 0 cr)
  have p5 := (p2.far (p := ⟨w.heap.size + 3, 0, none⟩) (by simp) (.bool (false))).far (p := ⟨w.heap.size + 3, 1, none⟩) (by simp) (.slice Ar 0 cr)
  have r0 := (p5.cell 0).trans (b := some (Value.bool (decide (0 < nq)))) rfl
  have r1 := (p5.cell 1).trans (b := some (Value.slice Aq nq cq)) rfl
  have r2 := (p4.cell 0).trans (b := some (Value.bool (false))) rfl
  have r3 := (p4.cell 1).trans (b := some (Value.slice Ar 0 cr)) rfl
  have qf := (((qq.below hbA).below hbB).store2 y2 (decide (0 < nq)) Aq nq cq).store2 p3 (false) Ar 0 cr
  have rf := (((rr.below hbA).below hbB).store2 y2 (decide (0 < nq)) Aq nq cq).store2 p3 (false) Ar 0 cr
  have bz := (bf.trans (hbA.mono bf.size)).trans (hbB.mono (Nat.le_trans bf.size hbA.size))
  refine bodyPost_ret (v := .tuple #[.agg #[.bool (decide (0 < nq)), .slice Aq nq cq], .agg #[.bool (false), .slice Ar 0 cr], .int .i64 0]) (by simp [results, Try.f29, go_sem, r0, r1, r2, r3]) rfl
    ⟨_, _, rfl, ?_, ?_, (((bz.setCell (p := ⟨w.heap.size + 2, 0, none⟩) (by simp) _).setCell (p := ⟨w.heap.size + 2, 1, none⟩) (by simp) _).setCell (p := ⟨w.heap.size + 3, 0, none⟩) (by simp) _).setCell (p := ⟨w.heap.size + 3, 1, none⟩) (by simp) _⟩
  · have := signed_z (x := true) (m := val la / val lb) (z := sgn true (val la / val lb)) (A := Aq) (c := cq) rfl (by rw [Hnq.out]; exact qf)
    rw [Hnq.out] at this
    exact this
  · have := signed_z (x := true) (m := val la % val lb) (z := sgn true (val la % val lb)) (A := Ar) (c := cr) rfl (by rw [Hnr.out]; exact rf)
    rw [Hnr.out] at this
    exact this

set_option maxRecDepth 100000 in
set_option maxHeartbeats 2000000 in
theorem divmod_pnu {la lb : List Nat} {A B : Option Addr} {na nb ca cb : Nat} {w : World} (hsa : Sl w (.slice A na ca) la) (hsb : Sl w (.slice B nb cb) lb) (hna : Hid (la.length = na)) (hnb : Hid (lb.length = nb)) (hv : (validB false la && validB true lb) = true) (hdiv : DivC la lb) (hb0 : 0 < nb) (hla : Hid ((digs (val la / val lb)).length ≤ 1099511627000 ∧ lb.length ≤ 1099511627000 ∧ val lb ≠ 0 ∧ (digs (val la % val lb)).length ≤ 1099511627000)) (hra : Hid (val la % val lb ≠ 0)) :
    Calls Try.prog 29 #[.agg #[.bool false, .slice A na ca], .agg #[.bool true, .slice B nb cb]] w fun e w' => ∃ q r, e = .returned (.tuple #[q, r, .int .i64 0]) ∧ WhZ w' q (sgn true (val la / val lb + 1)) ∧ WhZ w' r (sgn true (val lb - val la % val lb)) ∧ Below w.heap.size w w' := by
  obtain ⟨W0, hW0⟩ : ∃ W0, ((((w.alloc (.cells #[.bool false, .slice A na ca] 26)).alloc (.cells #[.bool true, .slice B nb cb] 26)).alloc (.cells #[.bool false, .slice none 0 0] 26)).alloc (.cells #[.bool false, .slice none 0 0] 26)).alloc (.cells #[.bool false, .slice A na ca, .bool true, .slice B nb cb] 26) = W0 := ⟨_, rfl⟩
  have b0 : Blk W0 w.heap.size 26 #[.bool false, .slice A na ca] := by rw [← hW0]; exact ((((Blk.new w _ _).alloc _).alloc _).alloc _).alloc _
  have b1 : Blk W0 (w.heap.size + 1) 26 #[.bool true, .slice B nb cb] := by
    rw [← hW0]
    have := (((Blk.new (w.alloc (.cells #[.bool false, .slice A na ca] 26)) 26 #[.bool true, .slice B nb cb]).alloc (.cells #[.bool false, .slice none 0 0] 26)).alloc (.cells #[.bool false, .slice none 0 0] 26)).alloc (.cells #[.bool false, .slice A na ca, .bool true, .slice B nb cb] 26)
    rwa [World.size_alloc] at this
  have b2 : Blk W0 (w.heap.size + 2) 26 #[.bool false, .slice none 0 0] := by
    rw [← hW0]
    have := ((Blk.new ((w.alloc (.cells #[.bool false, .slice A na ca] 26)).alloc (.cells #[.bool true, .slice B nb cb] 26)) 26 #[.bool false, .slice none 0 0]).alloc (.cells #[.bool false, .slice none 0 0] 26)).alloc (.cells #[.bool false, .slice A na ca, .bool true, .slice B nb cb] 26)
    rwa [World.size_alloc, World.size_alloc] at this
  have b3 : Blk W0 (w.heap.size + 3) 26 #[.bool false, .slice none 0 0] := by
    rw [← hW0]
    have := (Blk.new (((w.alloc (.cells #[.bool false, .slice A na ca] 26)).alloc (.cells #[.bool true, .slice B nb cb] 26)).alloc (.cells #[.bool false, .slice none 0 0] 26)) 26 #[.bool false, .slice none 0 0]).alloc (.cells #[.bool false, .slice A na ca, .bool true, .slice B nb cb] 26)
    rwa [World.size_alloc, World.size_alloc, World.size_alloc] at this
  have b4 : Blk W0 (w.heap.size + 1 + 1 + 1 + 1) 26 #[.bool false, .slice A na ca, .bool true, .slice B nb cb] := by
    rw [← hW0]
    have := (Blk.new ((((w.alloc (.cells #[.bool false, .slice A na ca] 26)).alloc (.cells #[.bool true, .slice B nb cb] 26)).alloc (.cells #[.bool false, .slice none 0 0] 26)).alloc (.cells #[.bool false, .slice none 0 0] 26)) 26 #[.bool false, .slice A na ca, .bool true, .slice B nb cb])
    rwa [World.size_alloc, World.size_alloc, World.size_alloc, World.size_alloc] at this
  have bw : Below w.heap.size w W0 := by rw [← hW0]; exact (by repeat (first | exact Below.refl _ _ | assumption | refine Below.alloc ?_ (by first | (simp; done) | (simp; omega) | omega) _ | refine Below.setCell ?_ (by first | (simp; done) | (simp; omega) | omega) _ | refine Below.drew ?_))
  have HW : Hid (((((w.alloc (.cells #[.bool false, .slice A na ca] 26)).alloc (.cells #[.bool true, .slice B nb cb] 26)).alloc (.cells #[.bool false, .slice none 0 0] 26)).alloc (.cells #[.bool false, .slice none 0 0] 26)).alloc (.cells #[.bool false, .slice A na ca, .bool true, .slice B nb cb] 26) = W0) := hW0
  clear hW0
  have hav := allValid2 (hsa.below bw) hna (hsb.below bw) hnb b4
  rw [hv] at hav
  have HJ : Hid (Calls Try.prog 48 #[.slice (some ⟨w.heap.size + 1 + 1 + 1 + 1, 0, none⟩) 2 2] W0 fun e w' => e = .returned (.bool true) ∧ Below W0.heap.size W0 w') := hav
  have x0 : Boxes W0 w.heap.size false true (.slice A na ca) (.slice B nb cb) := ⟨b0, b1, b2, b3⟩
  have s0 := hsa.below bw
  have t0 := hsb.below bw
  have hbt : ((nb : Int) == 0) = false := by simp; omega
  clear hav hv hsa hsb b0 b1 b2 b3 b4
  go_enter Try.func29, Try.ntmps29
  go_wp2_with (first
    | (rw [HW.out]; go_at_call 48; refine HJ.out.mono ?_; clear HJ; rintro e w1 ⟨rfl, hb1⟩; have x1 := x0.below hb1; have s1 := s0.below hb1; have t1 := t0.below hb1; have g0 := (x1.b0.cell 0).trans (b := some (Value.bool false)) rfl; have g1 := (x1.b0.cell 1).trans (b := some (Value.slice A na ca)) rfl; have i0 := (x1.b1.cell 0).trans (b := some (Value.bool true)) rfl; have i1 := (x1.b1.cell 1).trans (b := some (Value.slice B nb cb)) rfl; have l0 := x1.b0.lt; have l1 := x1.b1.lt)
    | (go_at_call 58; refine (hdiv _ _ _ s1 t1).mono ?_; rintro e w2 ⟨q, r, rfl, hq, hr, hb2⟩; have x2 := x1.below hb2; have t2 := t1.below hb2; obtain ⟨nq, Aq, cq, Hnq, rfl, hq⟩ := sl_len hq; obtain ⟨nr, Ar, cr, Hnr, rfl, hr⟩ := sl_len hr; have g0k := (x2.b0.cell 0).trans (b := some (Value.bool false)) rfl; have g1k := (x2.b0.cell 1).trans (b := some (Value.slice A na ca)) rfl; have i0k := (x2.b1.cell 0).trans (b := some (Value.bool true)) rfl; have i1k := (x2.b1.cell 1).trans (b := some (Value.slice B nb cb)) rfl; have l0k := x2.b0.lt; have l1k := x2.b1.lt; have hnr : 0 < nr := (by rw [← Hnr.out]; exact pos_digs hra.out))
    | (go_at_call 60; refine (limbsOf_any 1 _ (by omega) (by omega)).mono ?_; rintro e w3 ⟨o, rfl, ho, hb3⟩; have x3 := x2.below hb3; have t3 := t2.below hb3; have q3 := hq.below hb3; have r3 := hr.below hb3; have l1m := x3.b1.lt; have l0m := x3.b0.lt)
    | (go_at_call 59; refine (add_sl q3 ho hla.out.1 (by simp [digs_one])).mono ?_; rintro e w4 ⟨v4, rfl, hq4, hb4⟩; have x4 := x3.below hb4; have t4 := t3.below hb4; have r4 := r3.below hb4; obtain ⟨n4, A4, c4, Hn4, rfl, hq4⟩ := sl_len hq4; have g0m := (x4.b0.cell 0).trans (b := some (Value.bool false)) rfl; have g1m := (x4.b0.cell 1).trans (b := some (Value.slice A na ca)) rfl; have i0m := (x4.b1.cell 0).trans (b := some (Value.bool true)) rfl; have i1m := (x4.b1.cell 1).trans (b := some (Value.slice B nb cb)) rfl; have l0m := x4.b0.lt; have l1m := x4.b1.lt)
    | (go_at_call 61; refine (subtract_sl t4 r4 hla.out.2.1 hla.out.2.2.2 (by rw [val_digs]; exact Nat.le_of_lt (Nat.mod_lt _ (by have := hla.out.2.2.1; omega)))).mono ?_; rintro e w5 ⟨v5, rfl, hr5, hb5⟩; have x5 := x4.below hb5; have q5 := hq4.below hb5; obtain ⟨n5, A5, c5, Hn5, rfl, hr5⟩ := sl_len hr5; have g0p := (x5.b0.cell 0).trans (b := some (Value.bool false)) rfl; have g1p := (x5.b0.cell 1).trans (b := some (Value.slice A na ca)) rfl; have i0p := (x5.b1.cell 0).trans (b := some (Value.bool true)) rfl; have i1p := (x5.b1.cell 1).trans (b := some (Value.slice B nb cb)) rfl; have l0p := x5.b0.lt; have l1p := x5.b1.lt))
  have B1 := Nat.le_trans bw.size hb1.size
  have B2 := Nat.le_trans B1 hb2.size
  have B3 := Nat.le_trans B2 hb3.size
  have B4 := Nat.le_trans B3 hb4.size
  have bf := ((((bw.trans (hb1.mono bw.size)).trans (hb2.mono B1)).trans (hb3.mono B2)).trans (hb4.mono B3)).trans (hb5.mono B4)
  clear hdiv HW x0 x1 x2 x3 x4 s0 t0 s1 t1 t2 t3 t4 hq q3 r3 r4 hr hq4
  have tok1 : True := trivial
  have z2 := x5.b2
  have z3 := x5.b3
  have ly := z2.lt
  have lz := z3.lt
  have qq := q5
  have rr := hr5
  go_region_held3 (fun w' => w'.cell? ⟨w.heap.size, 0, none⟩ = some (.bool false) ∧ w'.cell? ⟨w.heap.size + 1, 0, none⟩ = some (.bool true))
    (first | (with_reducible exact ⟨cell_drew g0p, cell_drew i0p⟩) | (with_reducible exact ⟨ka, kb⟩) | (with_reducible exact ⟨ma, mb⟩) | (refine ⟨?_, ?_⟩ <;> (simp [go_sem, ma, mb]; done)))
    (first | (go_at_call 54; have _t := tok1; clear tok1; refine (signed_any _ _ _ _ _).mono ?_; rintro e wA ⟨rfl, hbx⟩; have hbA := below_of_drew hbx; clear hbx; have ka := (hbA.cell (p := ⟨w.heap.size, 0, none⟩) l0p).trans g0p; have kb := (hbA.cell (p := ⟨w.heap.size + 1, 0, none⟩) l1p).trans i0p) | (go_at_call 54; refine (signed_any _ _ _ _ _).mono ?_; rintro e wB ⟨rfl, hbB⟩; have ma := (hbB.cell (p := ⟨w.heap.size, 0, none⟩) (Nat.lt_of_lt_of_le l0p hbA.size)).trans ka; have mb := (hbB.cell (p := ⟨w.heap.size + 1, 0, none⟩) (Nat.lt_of_lt_of_le l1p hbA.size)).trans kb; have y2 := (z2.below hbA ly).below hbB (Nat.lt_of_lt_of_le ly hbA.size); have y3 := (z3.below hbA lz).below hbB (Nat.lt_of_lt_of_le lz hbA.size); have j0 := (y2.cell 0).trans (b := some (Value.bool false)) rfl; have j1 := (y2.cell 1).trans (b := some (Value.slice none 0 0)) rfl; have j2 := (y3.cell 0).trans (b := some (Value.bool false)) rfl; have j3 := (y3.cell 1).trans (b := some (Value.slice none 0 0)) rfl; have u0 := y2.frozen 0; have u1 := y2.frozen 1; have u2 := y3.frozen 0; have u3 := y3.frozen 1; have u4 := y2.lt; have u5 := y3.lt))
  go_wp2
  have p2 := (y2.set_ 0 (.bool (decide (0 < n4)))).set_ 1 (.slice A4 n4 c4)
  have p3 := (y3.far (p := ⟨w.heap.size + 2, 0, none⟩) (by simp) (.bool (decide (0 < n4)))).far (p := ⟨w.heap.size + 2, 1, none⟩) (by simp) (.slice A4 n4 c4)
  have p4 := (p3.set_ 0 (.bool (decide (0 < n5)))).set_ 1 (.slice A5 n5 c5)
  have p5 := (p2.far (p := ⟨w.heap.size + 3, 0, none⟩) (by simp) (.bool (decide (0 < n5)))).far (p := ⟨w.heap.size + 3, 1, none⟩) (by simp) (.slice A5 n5 c5)
  have r0 := (p5.cell 0).trans (b := some (Value.bool (decide (0 < n4)))) rfl
  have r1 := (p5.cell 1).trans (b := some (Value.slice A4 n4 c4)) rfl
  have r2 := (p4.cell 0).trans (b := some (Value.bool (decide (0 < n5)))) rfl
  have r3 := (p4.cell 1).trans (b := some (Value.slice A5 n5 c5)) rfl
  have qf := (((qq.below hbA).below hbB).store2 y2 (decide (0 < n4)) A4 n4 c4).store2 p3 (decide (0 < n5)) A5 n5 c5
  have rf := (((rr.below hbA).below hbB).store2 y2 (decide (0 < n4)) A4 n4 c4).store2 p3 (decide (0 < n5)) A5 n5 c5
  rw [val_digs, val_digs, show Int.toNat 1 = 1 from rfl] at qf Hn4
  rw [val_digs] at rf Hn5
  have bz := (bf.trans (hbA.mono bf.size)).trans (hbB.mono (Nat.le_trans bf.size hbA.size))
  refine bodyPost_ret (v := .tuple #[.agg #[.bool (decide (0 < n4)), .slice A4 n4 c4], .agg #[.bool (decide (0 < n5)), .slice A5 n5 c5], .int .i64 0]) (by simp [results, Try.f29, go_sem, r0, r1, r2, r3]) rfl
    ⟨_, _, rfl, ?_, ?_, (((bz.setCell (p := ⟨w.heap.size + 2, 0, none⟩) (by simp) _).setCell (p := ⟨w.heap.size + 2, 1, none⟩) (by simp) _).setCell (p := ⟨w.heap.size + 3, 0, none⟩) (by simp) _).setCell (p := ⟨w.heap.size + 3, 1, none⟩) (by simp) _⟩
  · have := signed_z (x := true) (m := val la / val lb + 1) (z := sgn true (val la / val lb + 1)) (A := A4) (c := c4) rfl (by rw [Hn4.out]; exact qf)
    rw [Hn4.out] at this
    exact this
  · have := signed_z (x := true) (m := val lb - val la % val lb) (z := sgn true (val lb - val la % val lb)) (A := A5) (c := c5) rfl (by rw [Hn5.out]; exact rf)
    rw [Hn5.out] at this
    exact this

set_option maxRecDepth 100000 in
set_option maxHeartbeats 2000000 in
theorem divmod_np {la lb : List Nat} {A B : Option Addr} {na nb ca cb : Nat} {w : World} (hsa : Sl w (.slice A na ca) la) (hsb : Sl w (.slice B nb cb) lb) (hna : Hid (la.length = na)) (hnb : Hid (lb.length = nb)) (hv : (validB true la && validB false lb) = true) (hdiv : DivC la lb) (hb0 : 0 < nb) (_hla : Hid ((digs (val la / val lb)).length ≤ 1099511627000 ∧ lb.length ≤ 1099511627000 ∧ val lb ≠ 0 ∧ (digs (val la % val lb)).length ≤ 1099511627000)) (hra : Hid (val la % val lb = 0)) :
    Calls Try.prog 29 #[.agg #[.bool true, .slice A na ca], .agg #[.bool false, .slice B nb cb]] w fun e w' => ∃ q r, e = .returned (.tuple #[q, r, .int .i64 0]) ∧ WhZ w' q (sgn true (val la / val lb)) ∧ WhZ w' r (sgn false (val la % val lb)) ∧ Below w.heap.size w w' := by
  obtain ⟨W0, hW0⟩ : ∃ W0, ((((w.alloc (.cells #[.bool true, .slice A na ca] 26)).alloc (.cells #[.bool false, .slice B nb cb] 26)).alloc (.cells #[.bool false, .slice none 0 0] 26)).alloc (.cells #[.bool false, .slice none 0 0] 26)).alloc (.cells #[.bool true, .slice A na ca, .bool false, .slice B nb cb] 26) = W0 := ⟨_, rfl⟩
  have b0 : Blk W0 w.heap.size 26 #[.bool true, .slice A na ca] := by rw [← hW0]; exact ((((Blk.new w _ _).alloc _).alloc _).alloc _).alloc _
  have b1 : Blk W0 (w.heap.size + 1) 26 #[.bool false, .slice B nb cb] := by
    rw [← hW0]
    have := (((Blk.new (w.alloc (.cells #[.bool true, .slice A na ca] 26)) 26 #[.bool false, .slice B nb cb]).alloc (.cells #[.bool false, .slice none 0 0] 26)).alloc (.cells #[.bool false, .slice none 0 0] 26)).alloc (.cells #[.bool true, .slice A na ca, .bool false, .slice B nb cb] 26)
    rwa [World.size_alloc] at this
  have b2 : Blk W0 (w.heap.size + 2) 26 #[.bool false, .slice none 0 0] := by
    rw [← hW0]
    have := ((Blk.new ((w.alloc (.cells #[.bool true, .slice A na ca] 26)).alloc (.cells #[.bool false, .slice B nb cb] 26)) 26 #[.bool false, .slice none 0 0]).alloc (.cells #[.bool false, .slice none 0 0] 26)).alloc (.cells #[.bool true, .slice A na ca, .bool false, .slice B nb cb] 26)
    rwa [World.size_alloc, World.size_alloc] at this
  have b3 : Blk W0 (w.heap.size + 3) 26 #[.bool false, .slice none 0 0] := by
    rw [← hW0]
    have := (Blk.new (((w.alloc (.cells #[.bool true, .slice A na ca] 26)).alloc (.cells #[.bool false, .slice B nb cb] 26)).alloc (.cells #[.bool false, .slice none 0 0] 26)) 26 #[.bool false, .slice none 0 0]).alloc (.cells #[.bool true, .slice A na ca, .bool false, .slice B nb cb] 26)
    rwa [World.size_alloc, World.size_alloc, World.size_alloc] at this
  have b4 : Blk W0 (w.heap.size + 1 + 1 + 1 + 1) 26 #[.bool true, .slice A na ca, .bool false, .slice B nb cb] := by
    rw [← hW0]
    have := (Blk.new ((((w.alloc (.cells #[.bool true, .slice A na ca] 26)).alloc (.cells #[.bool false, .slice B nb cb] 26)).alloc (.cells #[.bool false, .slice none 0 0] 26)).alloc (.cells #[.bool false, .slice none 0 0] 26)) 26 #[.bool true, .slice A na ca, .bool false, .slice B nb cb])
    rwa [World.size_alloc, World.size_alloc, World.size_alloc, World.size_alloc] at this
  have bw : Below w.heap.size w W0 := by rw [← hW0]; exact (by repeat (first | exact Below.refl _ _ | assumption | refine Below.alloc ?_ (by first | (simp; done) | (simp; omega) | omega) _ | refine Below.setCell ?_ (by first | (simp; done) | (simp; omega) | omega) _ | refine Below.drew ?_))
  have HW : Hid (((((w.alloc (.cells #[.bool true, .slice A na ca] 26)).alloc (.cells #[.bool false, .slice B nb cb] 26)).alloc (.cells #[.bool false, .slice none 0 0] 26)).alloc (.cells #[.bool false, .slice none 0 0] 26)).alloc (.cells #[.bool true, .slice A na ca, .bool false, .slice B nb cb] 26) = W0) := hW0
  clear hW0
  have hav := allValid2 (hsa.below bw) hna (hsb.below bw) hnb b4
  rw [hv] at hav
  have HJ : Hid (Calls Try.prog 48 #[.slice (some ⟨w.heap.size + 1 + 1 + 1 + 1, 0, none⟩) 2 2] W0 fun e w' => e = .returned (.bool true) ∧ Below W0.heap.size W0 w') := hav
  have x0 : Boxes W0 w.heap.size true false (.slice A na ca) (.slice B nb cb) := ⟨b0, b1, b2, b3⟩
  have s0 := hsa.below bw
  have t0 := hsb.below bw
  have hbt : ((nb : Int) == 0) = false := by simp; omega
  clear hav hv hsa hsb b0 b1 b2 b3 b4
  go_enter Try.func29, Try.ntmps29
  go_wp2_with (first
    | (rw [HW.out]; go_at_call 48; refine HJ.out.mono ?_; clear HJ; rintro e w1 ⟨rfl, hb1⟩; have x1 := x0.below hb1; have s1 := s0.below hb1; have t1 := t0.below hb1; have g0 := (x1.b0.cell 0).trans (b := some (Value.bool true)) rfl; have g1 := (x1.b0.cell 1).trans (b := some (Value.slice A na ca)) rfl; have i0 := (x1.b1.cell 0).trans (b := some (Value.bool false)) rfl; have i1 := (x1.b1.cell 1).trans (b := some (Value.slice B nb cb)) rfl; have l0 := x1.b0.lt; have l1 := x1.b1.lt)
    | (go_at_call 58; refine (hdiv _ _ _ s1 t1).mono ?_; rintro e w2 ⟨q, r, rfl, hq, hr, hb2⟩; have x2 := x1.below hb2; have t2 := t1.below hb2; obtain ⟨nq, Aq, cq, Hnq, rfl, hq⟩ := sl_len hq; obtain ⟨nr, Ar, cr, Hnr, rfl, hr⟩ := sl_len hr; have g0k := (x2.b0.cell 0).trans (b := some (Value.bool true)) rfl; have g1k := (x2.b0.cell 1).trans (b := some (Value.slice A na ca)) rfl; have i0k := (x2.b1.cell 0).trans (b := some (Value.bool false)) rfl; have i1k := (x2.b1.cell 1).trans (b := some (Value.slice B nb cb)) rfl; have l0k := x2.b0.lt; have l1k := x2.b1.lt; have hnr : nr = 0 := (by rw [← Hnr.out, hra.out, digs_zero]; rfl); subst hnr))
  have B1 := Nat.le_trans bw.size hb1.size
  have bf := (bw.trans (hb1.mono bw.size)).trans (hb2.mono B1)
  clear hdiv HW x0 x1 s0 t0 s1 t1 t2
  have tok1 : True := trivial
  have z2 := x2.b2
  have z3 := x2.b3
  have ly := z2.lt
  have lz := z3.lt
  have qq := hq
  have rr := hr
  go_region_held3 (fun w' => w'.cell? ⟨w.heap.size, 0, none⟩ = some (.bool true) ∧ w'.cell? ⟨w.heap.size + 1, 0, none⟩ = some (.bool false))
    (first | (with_reducible exact ⟨cell_drew g0k, cell_drew i0k⟩) | (with_reducible exact ⟨ka, kb⟩) | (with_reducible exact ⟨ma, mb⟩) | (refine ⟨?_, ?_⟩ <;> (simp [go_sem, ma, mb]; done)))
    (first | (go_at_call 54; have _t := tok1; clear tok1; refine (signed_any _ _ _ _ _).mono ?_; rintro e wA ⟨rfl, hbx⟩; have hbA := below_of_drew hbx; clear hbx; have ka := (hbA.cell (p := ⟨w.heap.size, 0, none⟩) l0k).trans g0k; have kb := (hbA.cell (p := ⟨w.heap.size + 1, 0, none⟩) l1k).trans i0k) | (go_at_call 54; refine (signed_any _ _ _ _ _).mono ?_; rintro e wB ⟨rfl, hbB⟩; have ma := (hbB.cell (p := ⟨w.heap.size, 0, none⟩) (Nat.lt_of_lt_of_le l0k hbA.size)).trans ka; have mb := (hbB.cell (p := ⟨w.heap.size + 1, 0, none⟩) (Nat.lt_of_lt_of_le l1k hbA.size)).trans kb; have y2 := (z2.below hbA ly).below hbB (Nat.lt_of_lt_of_le ly hbA.size); have y3 := (z3.below hbA lz).below hbB (Nat.lt_of_lt_of_le lz hbA.size); have j0 := (y2.cell 0).trans (b := some (Value.bool false)) rfl; have j1 := (y2.cell 1).trans (b := some (Value.slice none 0 0)) rfl; have j2 := (y3.cell 0).trans (b := some (Value.bool false)) rfl; have j3 := (y3.cell 1).trans (b := some (Value.slice none 0 0)) rfl; have u0 := y2.frozen 0; have u1 := y2.frozen 1; have u2 := y3.frozen 0; have u3 := y3.frozen 1; have u4 := y2.lt; have u5 := y3.lt))
  go_wp2
  have p2 := (y2.set_ 0 (.bool (decide (0 < nq)))).set_ 1 (.slice Aq nq cq)
  have p3 := (y3.far (p := ⟨w.heap.size + 2, 0, none⟩) (by simp) (.bool (decide (0 < nq)))).far (p := ⟨w.heap.size + 2, 1, none⟩) (by simp) (.slice Aq nq cq)
  have p4 := (p3.set_ 0 (.bool (false))).set_ 1 (.slice Ar 0 cr)
  have p5 := (p2.far (p := ⟨w.heap.size + 3, 0, none⟩) (by simp) (.bool (false))).far (p := ⟨w.heap.size + 3, 1, none⟩) (by simp) (.slice Ar 0 cr)
  have r0 := (p5.cell 0).trans (b := some (Value.bool (decide (0 < nq)))) rfl
  have r1 := (p5.cell 1).trans (b := some (Value.slice Aq nq cq)) rfl
  have r2 := (p4.cell 0).trans (b := some (Value.bool (false))) rfl
  have r3 := (p4.cell 1).trans (b := some (Value.slice Ar 0 cr)) rfl
  have qf := (((qq.below hbA).below hbB).store2 y2 (decide (0 < nq)) Aq nq cq).store2 p3 (false) Ar 0 cr
  have rf := (((rr.below hbA).below hbB).store2 y2 (decide (0 < nq)) Aq nq cq).store2 p3 (false) Ar 0 cr
  have bz := (bf.trans (hbA.mono bf.size)).trans (hbB.mono (Nat.le_trans bf.size hbA.size))
  refine bodyPost_ret (v := .tuple #[.agg #[.bool (decide (0 < nq)), .slice Aq nq cq], .agg #[.bool (false), .slice Ar 0 cr], .int .i64 0]) (by simp [results, Try.f29, go_sem, r0, r1, r2, r3]) rfl
    ⟨_, _, rfl, ?_, ?_, (((bz.setCell (p := ⟨w.heap.size + 2, 0, none⟩) (by simp) _).setCell (p := ⟨w.heap.size + 2, 1, none⟩) (by simp) _).setCell (p := ⟨w.heap.size + 3, 0, none⟩) (by simp) _).setCell (p := ⟨w.heap.size + 3, 1, none⟩) (by simp) _⟩
  · have := signed_z (x := true) (m := val la / val lb) (z := sgn true (val la / val lb)) (A := Aq) (c := cq) rfl (by rw [Hnq.out]; exact qf)
    rw [Hnq.out] at this
    exact this
  · have := signed_z (x := false) (m := val la % val lb) (z := sgn false (val la % val lb)) (A := Ar) (c := cr) rfl (by rw [Hnr.out]; exact rf)
    rw [Hnr.out] at this
    exact this

set_option maxRecDepth 100000 in
set_option maxHeartbeats 2000000 in
theorem divmod_npu {la lb : List Nat} {A B : Option Addr} {na nb ca cb : Nat} {w : World} (hsa : Sl w (.slice A na ca) la) (hsb : Sl w (.slice B nb cb) lb) (hna : Hid (la.length = na)) (hnb : Hid (lb.length = nb)) (hv : (validB true la && validB false lb) = true) (hdiv : DivC la lb) (hb0 : 0 < nb) (hla : Hid ((digs (val la / val lb)).length ≤ 1099511627000 ∧ lb.length ≤ 1099511627000 ∧ val lb ≠ 0 ∧ (digs (val la % val lb)).length ≤ 1099511627000)) (hra : Hid (val la % val lb ≠ 0)) :
    Calls Try.prog 29 #[.agg #[.bool true, .slice A na ca], .agg #[.bool false, .slice B nb cb]] w fun e w' => ∃ q r, e = .returned (.tuple #[q, r, .int .i64 0]) ∧ WhZ w' q (sgn true (val la / val lb + 1)) ∧ WhZ w' r (sgn false (val lb - val la % val lb)) ∧ Below w.heap.size w w' := by
  obtain ⟨W0, hW0⟩ : ∃ W0, ((((w.alloc (.cells #[.bool true, .slice A na ca] 26)).alloc (.cells #[.bool false, .slice B nb cb] 26)).alloc (.cells #[.bool false, .slice none 0 0] 26)).alloc (.cells #[.bool false, .slice none 0 0] 26)).alloc (.cells #[.bool true, .slice A na ca, .bool false, .slice B nb cb] 26) = W0 := ⟨_, rfl⟩
  have b0 : Blk W0 w.heap.size 26 #[.bool true, .slice A na ca] := by rw [← hW0]; exact ((((Blk.new w _ _).alloc _).alloc _).alloc _).alloc _
  have b1 : Blk W0 (w.heap.size + 1) 26 #[.bool false, .slice B nb cb] := by
    rw [← hW0]
    have := (((Blk.new (w.alloc (.cells #[.bool true, .slice A na ca] 26)) 26 #[.bool false, .slice B nb cb]).alloc (.cells #[.bool false, .slice none 0 0] 26)).alloc (.cells #[.bool false, .slice none 0 0] 26)).alloc (.cells #[.bool true, .slice A na ca, .bool false, .slice B nb cb] 26)
    rwa [World.size_alloc] at this
  have b2 : Blk W0 (w.heap.size + 2) 26 #[.bool false, .slice none 0 0] := by
    rw [← hW0]
    have := ((Blk.new ((w.alloc (.cells #[.bool true, .slice A na ca] 26)).alloc (.cells #[.bool false, .slice B nb cb] 26)) 26 #[.bool false, .slice none 0 0]).alloc (.cells #[.bool false, .slice none 0 0] 26)).alloc (.cells #[.bool true, .slice A na ca, .bool false, .slice B nb cb] 26)
    rwa [World.size_alloc, World.size_alloc] at this
  have b3 : Blk W0 (w.heap.size + 3) 26 #[.bool false, .slice none 0 0] := by
    rw [← hW0]
    have := (Blk.new (((w.alloc (.cells #[.bool true, .slice A na ca] 26)).alloc (.cells #[.bool false, .slice B nb cb] 26)).alloc (.cells #[.bool false, .slice none 0 0] 26)) 26 #[.bool false, .slice none 0 0]).alloc (.cells #[.bool true, .slice A na ca, .bool false, .slice B nb cb] 26)
    rwa [World.size_alloc, World.size_alloc, World.size_alloc] at this
  have b4 : Blk W0 (w.heap.size + 1 + 1 + 1 + 1) 26 #[.bool true, .slice A na ca, .bool false, .slice B nb cb] := by
    rw [← hW0]
    have := (Blk.new ((((w.alloc (.cells #[.bool true, .slice A na ca] 26)).alloc (.cells #[.bool false, .slice B nb cb] 26)).alloc (.cells #[.bool false, .slice none 0 0] 26)).alloc (.cells #[.bool false, .slice none 0 0] 26)) 26 #[.bool true, .slice A na ca, .bool false, .slice B nb cb])
    rwa [World.size_alloc, World.size_alloc, World.size_alloc, World.size_alloc] at this
  have bw : Below w.heap.size w W0 := by rw [← hW0]; exact (by repeat (first | exact Below.refl _ _ | assumption | refine Below.alloc ?_ (by first | (simp; done) | (simp; omega) | omega) _ | refine Below.setCell ?_ (by first | (simp; done) | (simp; omega) | omega) _ | refine Below.drew ?_))
  have HW : Hid (((((w.alloc (.cells #[.bool true, .slice A na ca] 26)).alloc (.cells #[.bool false, .slice B nb cb] 26)).alloc (.cells #[.bool false, .slice none 0 0] 26)).alloc (.cells #[.bool false, .slice none 0 0] 26)).alloc (.cells #[.bool true, .slice A na ca, .bool false, .slice B nb cb] 26) = W0) := hW0
  clear hW0
  have hav := allValid2 (hsa.below bw) hna (hsb.below bw) hnb b4
  rw [hv] at hav
  have HJ : Hid (Calls Try.prog 48 #[.slice (some ⟨w.heap.size + 1 + 1 + 1 + 1, 0, none⟩) 2 2] W0 fun e w' => e = .returned (.bool true) ∧ Below W0.heap.size W0 w') := hav
  have x0 : Boxes W0 w.heap.size true false (.slice A na ca) (.slice B nb cb) := ⟨b0, b1, b2, b3⟩
  have s0 := hsa.below bw
  have t0 := hsb.below bw
  have hbt : ((nb : Int) == 0) = false := by simp; omega
  clear hav hv hsa hsb b0 b1 b2 b3 b4
  go_enter Try.func29, Try.ntmps29
  go_wp2_with (first
    | (rw [HW.out]; go_at_call 48; refine HJ.out.mono ?_; clear HJ; rintro e w1 ⟨rfl, hb1⟩; have x1 := x0.below hb1; have s1 := s0.below hb1; have t1 := t0.below hb1; have g0 := (x1.b0.cell 0).trans (b := some (Value.bool true)) rfl; have g1 := (x1.b0.cell 1).trans (b := some (Value.slice A na ca)) rfl; have i0 := (x1.b1.cell 0).trans (b := some (Value.bool false)) rfl; have i1 := (x1.b1.cell 1).trans (b := some (Value.slice B nb cb)) rfl; have l0 := x1.b0.lt; have l1 := x1.b1.lt)
    | (go_at_call 58; refine (hdiv _ _ _ s1 t1).mono ?_; rintro e w2 ⟨q, r, rfl, hq, hr, hb2⟩; have x2 := x1.below hb2; have t2 := t1.below hb2; obtain ⟨nq, Aq, cq, Hnq, rfl, hq⟩ := sl_len hq; obtain ⟨nr, Ar, cr, Hnr, rfl, hr⟩ := sl_len hr; have g0k := (x2.b0.cell 0).trans (b := some (Value.bool true)) rfl; have g1k := (x2.b0.cell 1).trans (b := some (Value.slice A na ca)) rfl; have i0k := (x2.b1.cell 0).trans (b := some (Value.bool false)) rfl; have i1k := (x2.b1.cell 1).trans (b := some (Value.slice B nb cb)) rfl; have l0k := x2.b0.lt; have l1k := x2.b1.lt; have hnr : 0 < nr := (by rw [← Hnr.out]; exact pos_digs hra.out))
    | (go_at_call 60; refine (limbsOf_any 1 _ (by omega) (by omega)).mono ?_; rintro e w3 ⟨o, rfl, ho, hb3⟩; have x3 := x2.below hb3; have t3 := t2.below hb3; have q3 := hq.below hb3; have r3 := hr.below hb3; have l1m := x3.b1.lt; have l0m := x3.b0.lt)
    | (go_at_call 59; refine (add_sl q3 ho hla.out.1 (by simp [digs_one])).mono ?_; rintro e w4 ⟨v4, rfl, hq4, hb4⟩; have x4 := x3.below hb4; have t4 := t3.below hb4; have r4 := r3.below hb4; obtain ⟨n4, A4, c4, Hn4, rfl, hq4⟩ := sl_len hq4; have g0m := (x4.b0.cell 0).trans (b := some (Value.bool true)) rfl; have g1m := (x4.b0.cell 1).trans (b := some (Value.slice A na ca)) rfl; have i0m := (x4.b1.cell 0).trans (b := some (Value.bool false)) rfl; have i1m := (x4.b1.cell 1).trans (b := some (Value.slice B nb cb)) rfl; have l0m := x4.b0.lt; have l1m := x4.b1.lt)
    | (go_at_call 61; refine (subtract_sl t4 r4 hla.out.2.1 hla.out.2.2.2 (by rw [val_digs]; exact Nat.le_of_lt (Nat.mod_lt _ (by have := hla.out.2.2.1; omega)))).mono ?_; rintro e w5 ⟨v5, rfl, hr5, hb5⟩; have x5 := x4.below hb5; have q5 := hq4.below hb5; obtain ⟨n5, A5, c5, Hn5, rfl, hr5⟩ := sl_len hr5; have g0p := (x5.b0.cell 0).trans (b := some (Value.bool true)) rfl; have g1p := (x5.b0.cell 1).trans (b := some (Value.slice A na ca)) rfl; have i0p := (x5.b1.cell 0).trans (b := some (Value.bool false)) rfl; have i1p := (x5.b1.cell 1).trans (b := some (Value.slice B nb cb)) rfl; have l0p := x5.b0.lt; have l1p := x5.b1.lt))
  have B1 := Nat.le_trans bw.size hb1.size
  have B2 := Nat.le_trans B1 hb2.size
  have B3 := Nat.le_trans B2 hb3.size
  have B4 := Nat.le_trans B3 hb4.size
  have bf := ((((bw.trans (hb1.mono bw.size)).trans (hb2.mono B1)).trans (hb3.mono B2)).trans (hb4.mono B3)).trans (hb5.mono B4)
  clear hdiv HW x0 x1 x2 x3 x4 s0 t0 s1 t1 t2 t3 t4 hq q3 r3 r4 hr hq4
  have tok1 : True := trivial
  have z2 := x5.b2
  have z3 := x5.b3
  have ly := z2.lt
  have lz := z3.lt
  have qq := q5
  have rr := hr5
  go_region_held3 (fun w' => w'.cell? ⟨w.heap.size, 0, none⟩ = some (.bool true) ∧ w'.cell? ⟨w.heap.size + 1, 0, none⟩ = some (.bool false))
    (first | (with_reducible exact ⟨cell_drew g0p, cell_drew i0p⟩) | (with_reducible exact ⟨ka, kb⟩) | (with_reducible exact ⟨ma, mb⟩) | (refine ⟨?_, ?_⟩ <;> (simp [go_sem, ma, mb]; done)))
    (first | (go_at_call 54; have _t := tok1; clear tok1; refine (signed_any _ _ _ _ _).mono ?_; rintro e wA ⟨rfl, hbx⟩; have hbA := below_of_drew hbx; clear hbx; have ka := (hbA.cell (p := ⟨w.heap.size, 0, none⟩) l0p).trans g0p; have kb := (hbA.cell (p := ⟨w.heap.size + 1, 0, none⟩) l1p).trans i0p) | (go_at_call 54; refine (signed_any _ _ _ _ _).mono ?_; rintro e wB ⟨rfl, hbB⟩; have ma := (hbB.cell (p := ⟨w.heap.size, 0, none⟩) (Nat.lt_of_lt_of_le l0p hbA.size)).trans ka; have mb := (hbB.cell (p := ⟨w.heap.size + 1, 0, none⟩) (Nat.lt_of_lt_of_le l1p hbA.size)).trans kb; have y2 := (z2.below hbA ly).below hbB (Nat.lt_of_lt_of_le ly hbA.size); have y3 := (z3.below hbA lz).below hbB (Nat.lt_of_lt_of_le lz hbA.size); have j0 := (y2.cell 0).trans (b := some (Value.bool false)) rfl; have j1 := (y2.cell 1).trans (b := some (Value.slice none 0 0)) rfl; have j2 := (y3.cell 0).trans (b := some (Value.bool false)) rfl; have j3 := (y3.cell 1).trans (b := some (Value.slice none 0 0)) rfl; have u0 := y2.frozen 0; have u1 := y2.frozen 1; have u2 := y3.frozen 0; have u3 := y3.frozen 1; have u4 := y2.lt; have u5 := y3.lt))
  go_wp2
  have p2 := (y2.set_ 0 (.bool (decide (0 < n4)))).set_ 1 (.slice A4 n4 c4)
  have p3 := (y3.far (p := ⟨w.heap.size + 2, 0, none⟩) (by simp) (.bool (decide (0 < n4)))).far (p := ⟨w.heap.size + 2, 1, none⟩) (by simp) (.slice A4 n4 c4)
  have p4 := (p3.set_ 0 (.bool (false))).set_ 1 (.slice A5 n5 c5)
  have p5 := (p2.far (p := ⟨w.heap.size + 3, 0, none⟩) (by simp) (.bool (false))).far (p := ⟨w.heap.size + 3, 1, none⟩) (by simp) (.slice A5 n5 c5)
  have r0 := (p5.cell 0).trans (b := some (Value.bool (decide (0 < n4)))) rfl
  have r1 := (p5.cell 1).trans (b := some (Value.slice A4 n4 c4)) rfl
  have r2 := (p4.cell 0).trans (b := some (Value.bool (false))) rfl
  have r3 := (p4.cell 1).trans (b := some (Value.slice A5 n5 c5)) rfl
  have qf := (((qq.below hbA).below hbB).store2 y2 (decide (0 < n4)) A4 n4 c4).store2 p3 (false) A5 n5 c5
  have rf := (((rr.below hbA).below hbB).store2 y2 (decide (0 < n4)) A4 n4 c4).store2 p3 (false) A5 n5 c5
  rw [val_digs, val_digs, show Int.toNat 1 = 1 from rfl] at qf Hn4
  rw [val_digs] at rf Hn5
  have bz := (bf.trans (hbA.mono bf.size)).trans (hbB.mono (Nat.le_trans bf.size hbA.size))
  refine bodyPost_ret (v := .tuple #[.agg #[.bool (decide (0 < n4)), .slice A4 n4 c4], .agg #[.bool (false), .slice A5 n5 c5], .int .i64 0]) (by simp [results, Try.f29, go_sem, r0, r1, r2, r3]) rfl
    ⟨_, _, rfl, ?_, ?_, (((bz.setCell (p := ⟨w.heap.size + 2, 0, none⟩) (by simp) _).setCell (p := ⟨w.heap.size + 2, 1, none⟩) (by simp) _).setCell (p := ⟨w.heap.size + 3, 0, none⟩) (by simp) _).setCell (p := ⟨w.heap.size + 3, 1, none⟩) (by simp) _⟩
  · have := signed_z (x := true) (m := val la / val lb + 1) (z := sgn true (val la / val lb + 1)) (A := A4) (c := c4) rfl (by rw [Hn4.out]; exact qf)
    rw [Hn4.out] at this
    exact this
  · have := signed_z (x := false) (m := val lb - val la % val lb) (z := sgn false (val lb - val la % val lb)) (A := A5) (c := c5) rfl (by rw [Hn5.out]; exact rf)
    rw [Hn5.out] at this
    exact this

set_option maxRecDepth 100000 in
set_option maxHeartbeats 2000000 in
theorem divmod_nn {la lb : List Nat} {A B : Option Addr} {na nb ca cb : Nat} {w : World} (hsa : Sl w (.slice A na ca) la) (hsb : Sl w (.slice B nb cb) lb) (hna : Hid (la.length = na)) (hnb : Hid (lb.length = nb)) (hv : (validB true la && validB true lb) = true) (hdiv : DivC la lb) (hb0 : 0 < nb) (_hla : Hid ((digs (val la / val lb)).length ≤ 1099511627000 ∧ lb.length ≤ 1099511627000 ∧ val lb ≠ 0 ∧ (digs (val la % val lb)).length ≤ 1099511627000)) :
    Calls Try.prog 29 #[.agg #[.bool true, .slice A na ca], .agg #[.bool true, .slice B nb cb]] w fun e w' => ∃ q r, e = .returned (.tuple #[q, r, .int .i64 0]) ∧ WhZ w' q (sgn false (val la / val lb)) ∧ WhZ w' r (sgn true (val la % val lb)) ∧ Below w.heap.size w w' := by
  obtain ⟨W0, hW0⟩ : ∃ W0, ((((w.alloc (.cells #[.bool true, .slice A na ca] 26)).alloc (.cells #[.bool true, .slice B nb cb] 26)).alloc (.cells #[.bool false, .slice none 0 0] 26)).alloc (.cells #[.bool false, .slice none 0 0] 26)).alloc (.cells #[.bool true, .slice A na ca, .bool true, .slice B nb cb] 26) = W0 := ⟨_, rfl⟩
  have b0 : Blk W0 w.heap.size 26 #[.bool true, .slice A na ca] := by rw [← hW0]; exact ((((Blk.new w _ _).alloc _).alloc _).alloc _).alloc _
  have b1 : Blk W0 (w.heap.size + 1) 26 #[.bool true, .slice B nb cb] := by
    rw [← hW0]
    have := (((Blk.new (w.alloc (.cells #[.bool true, .slice A na ca] 26)) 26 #[.bool true, .slice B nb cb]).alloc (.cells #[.bool false, .slice none 0 0] 26)).alloc (.cells #[.bool false, .slice none 0 0] 26)).alloc (.cells #[.bool true, .slice A na ca, .bool true, .slice B nb cb] 26)
    rwa [World.size_alloc] at this
  have b2 : Blk W0 (w.heap.size + 2) 26 #[.bool false, .slice none 0 0] := by
    rw [← hW0]
    have := ((Blk.new ((w.alloc (.cells #[.bool true, .slice A na ca] 26)).alloc (.cells #[.bool true, .slice B nb cb] 26)) 26 #[.bool false, .slice none 0 0]).alloc (.cells #[.bool false, .slice none 0 0] 26)).alloc (.cells #[.bool true, .slice A na ca, .bool true, .slice B nb cb] 26)
    rwa [World.size_alloc, World.size_alloc] at this
  have b3 : Blk W0 (w.heap.size + 3) 26 #[.bool false, .slice none 0 0] := by
    rw [← hW0]
    have := (Blk.new (((w.alloc (.cells #[.bool true, .slice A na ca] 26)).alloc (.cells #[.bool true, .slice B nb cb] 26)).alloc (.cells #[.bool false, .slice none 0 0] 26)) 26 #[.bool false, .slice none 0 0]).alloc (.cells #[.bool true, .slice A na ca, .bool true, .slice B nb cb] 26)
    rwa [World.size_alloc, World.size_alloc, World.size_alloc] at this
  have b4 : Blk W0 (w.heap.size + 1 + 1 + 1 + 1) 26 #[.bool true, .slice A na ca, .bool true, .slice B nb cb] := by
    rw [← hW0]
    have := (Blk.new ((((w.alloc (.cells #[.bool true, .slice A na ca] 26)).alloc (.cells #[.bool true, .slice B nb cb] 26)).alloc (.cells #[.bool false, .slice none 0 0] 26)).alloc (.cells #[.bool false, .slice none 0 0] 26)) 26 #[.bool true, .slice A na ca, .bool true, .slice B nb cb])
    rwa [World.size_alloc, World.size_alloc, World.size_alloc, World.size_alloc] at this
  have bw : Below w.heap.size w W0 := by rw [← hW0]; exact (by repeat (first | exact Below.refl _ _ | assumption | refine Below.alloc ?_ (by first | (simp; done) | (simp; omega) | omega) _ | refine Below.setCell ?_ (by first | (simp; done) | (simp; omega) | omega) _ | refine Below.drew ?_))
  have HW : Hid (((((w.alloc (.cells #[.bool true, .slice A na ca] 26)).alloc (.cells #[.bool true, .slice B nb cb] 26)).alloc (.cells #[.bool false, .slice none 0 0] 26)).alloc (.cells #[.bool false, .slice none 0 0] 26)).alloc (.cells #[.bool true, .slice A na ca, .bool true, .slice B nb cb] 26) = W0) := hW0
  clear hW0
  have hav := allValid2 (hsa.below bw) hna (hsb.below bw) hnb b4
  rw [hv] at hav
  have HJ : Hid (Calls Try.prog 48 #[.slice (some ⟨w.heap.size + 1 + 1 + 1 + 1, 0, none⟩) 2 2] W0 fun e w' => e = .returned (.bool true) ∧ Below W0.heap.size W0 w') := hav
  have x0 : Boxes W0 w.heap.size true true (.slice A na ca) (.slice B nb cb) := ⟨b0, b1, b2, b3⟩
  have s0 := hsa.below bw
  have t0 := hsb.below bw
  have hbt : ((nb : Int) == 0) = false := by simp; omega
  clear hav hv hsa hsb b0 b1 b2 b3 b4
  go_enter Try.func29, Try.ntmps29
  go_wp2_with (first
    | (rw [HW.out]; go_at_call 48; refine HJ.out.mono ?_; clear HJ; rintro e w1 ⟨rfl, hb1⟩; have x1 := x0.below hb1; have s1 := s0.below hb1; have t1 := t0.below hb1; have g0 := (x1.b0.cell 0).trans (b := some (Value.bool true)) rfl; have g1 := (x1.b0.cell 1).trans (b := some (Value.slice A na ca)) rfl; have i0 := (x1.b1.cell 0).trans (b := some (Value.bool true)) rfl; have i1 := (x1.b1.cell 1).trans (b := some (Value.slice B nb cb)) rfl; have l0 := x1.b0.lt; have l1 := x1.b1.lt)
    | (go_at_call 58; refine (hdiv _ _ _ s1 t1).mono ?_; rintro e w2 ⟨q, r, rfl, hq, hr, hb2⟩; have x2 := x1.below hb2; have t2 := t1.below hb2; obtain ⟨nq, Aq, cq, Hnq, rfl, hq⟩ := sl_len hq; obtain ⟨nr, Ar, cr, Hnr, rfl, hr⟩ := sl_len hr; have g0k := (x2.b0.cell 0).trans (b := some (Value.bool true)) rfl; have g1k := (x2.b0.cell 1).trans (b := some (Value.slice A na ca)) rfl; have i0k := (x2.b1.cell 0).trans (b := some (Value.bool true)) rfl; have i1k := (x2.b1.cell 1).trans (b := some (Value.slice B nb cb)) rfl; have l0k := x2.b0.lt; have l1k := x2.b1.lt))
  have B1 := Nat.le_trans bw.size hb1.size
  have bf := (bw.trans (hb1.mono bw.size)).trans (hb2.mono B1)
  clear hdiv HW x0 x1 s0 t0 s1 t1 t2
  have tok1 : True := trivial
  have z2 := x2.b2
  have z3 := x2.b3
  have ly := z2.lt
  have lz := z3.lt
  have qq := hq
  have rr := hr
  go_region_held3 (fun w' => w'.cell? ⟨w.heap.size, 0, none⟩ = some (.bool true) ∧ w'.cell? ⟨w.heap.size + 1, 0, none⟩ = some (.bool true))
    (first | (with_reducible exact ⟨cell_drew g0k, cell_drew i0k⟩) | (with_reducible exact ⟨ka, kb⟩) | (with_reducible exact ⟨ma, mb⟩) | (refine ⟨?_, ?_⟩ <;> (simp [go_sem, ma, mb]; done)))
    (first | (go_at_call 54; have _t := tok1; clear tok1; refine (signed_any _ _ _ _ _).mono ?_; rintro e wA ⟨rfl, hbx⟩; have hbA := below_of_drew hbx; clear hbx; have ka := (hbA.cell (p := ⟨w.heap.size, 0, none⟩) l0k).trans g0k; have kb := (hbA.cell (p := ⟨w.heap.size + 1, 0, none⟩) l1k).trans i0k) | (go_at_call 54; refine (signed_any _ _ _ _ _).mono ?_; rintro e wB ⟨rfl, hbB⟩; have ma := (hbB.cell (p := ⟨w.heap.size, 0, none⟩) (Nat.lt_of_lt_of_le l0k hbA.size)).trans ka; have mb := (hbB.cell (p := ⟨w.heap.size + 1, 0, none⟩) (Nat.lt_of_lt_of_le l1k hbA.size)).trans kb; have y2 := (z2.below hbA ly).below hbB (Nat.lt_of_lt_of_le ly hbA.size); have y3 := (z3.below hbA lz).below hbB (Nat.lt_of_lt_of_le lz hbA.size); have j0 := (y2.cell 0).trans (b := some (Value.bool false)) rfl; have j1 := (y2.cell 1).trans (b := some (Value.slice none 0 0)) rfl; have j2 := (y3.cell 0).trans (b := some (Value.bool false)) rfl; have j3 := (y3.cell 1).trans (b := some (Value.slice none 0 0)) rfl; have u0 := y2.frozen 0; have u1 := y2.frozen 1; have u2 := y3.frozen 0; have u3 := y3.frozen 1; have u4 := y2.lt; have u5 := y3.lt))
  go_wp2
  have p2 := (y2.set_ 0 (.bool (false))).set_ 1 (.slice Aq nq cq)
  have p3 := (y3.far (p := ⟨w.heap.size + 2, 0, none⟩) (by simp) (.bool (false))).far (p := ⟨w.heap.size + 2, 1, none⟩) (by simp) (.slice Aq nq cq)
  have p4 := (p3.set_ 0 (.bool (decide (0 < nr)))).set_ 1 (.slice Ar nr cr)
  have p5 := (p2.far (p := ⟨w.heap.size + 3, 0, none⟩) (by simp) (.bool (decide (0 < nr)))).far (p := ⟨w.heap.size + 3, 1, none⟩) (by simp) (.slice Ar nr cr)
  have r0 := (p5.cell 0).trans (b := some (Value.bool (false))) rfl
  have r1 := (p5.cell 1).trans (b := some (Value.slice Aq nq cq)) rfl
  have r2 := (p4.cell 0).trans (b := some (Value.bool (decide (0 < nr)))) rfl
  have r3 := (p4.cell 1).trans (b := some (Value.slice Ar nr cr)) rfl
  have qf := (((qq.below hbA).below hbB).store2 y2 (false) Aq nq cq).store2 p3 (decide (0 < nr)) Ar nr cr
  have rf := (((rr.below hbA).below hbB).store2 y2 (false) Aq nq cq).store2 p3 (decide (0 < nr)) Ar nr cr
  have bz := (bf.trans (hbA.mono bf.size)).trans (hbB.mono (Nat.le_trans bf.size hbA.size))
  refine bodyPost_ret (v := .tuple #[.agg #[.bool (false), .slice Aq nq cq], .agg #[.bool (decide (0 < nr)), .slice Ar nr cr], .int .i64 0]) (by simp [results, Try.f29, go_sem, r0, r1, r2, r3]) rfl
    ⟨_, _, rfl, ?_, ?_, (((bz.setCell (p := ⟨w.heap.size + 2, 0, none⟩) (by simp) _).setCell (p := ⟨w.heap.size + 2, 1, none⟩) (by simp) _).setCell (p := ⟨w.heap.size + 3, 0, none⟩) (by simp) _).setCell (p := ⟨w.heap.size + 3, 1, none⟩) (by simp) _⟩
  · have := signed_z (x := false) (m := val la / val lb) (z := sgn false (val la / val lb)) (A := Aq) (c := cq) rfl (by rw [Hnq.out]; exact qf)
    rw [Hnq.out] at this
    exact this
  · have := signed_z (x := true) (m := val la % val lb) (z := sgn true (val la % val lb)) (A := Ar) (c := cr) rfl (by rw [Hnr.out]; exact rf)
    rw [Hnr.out] at this
    exact this

end Go.Proofs.Ytgnidjhfiagfnaa
