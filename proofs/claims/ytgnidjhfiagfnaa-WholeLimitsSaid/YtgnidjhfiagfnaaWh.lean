/- Sums of numbers with signs. Conditions: the absolute values are in normal form and not too long. -/
import Derived.Test.YtgnidjhfiagfnaaWg
import Derived.Deep.RegionHeld3
namespace Go.Proofs.Ytgnidjhfiagfnaa
open Go.RowKit

/-- The number with a sign and limbs. -/
def zv (neg : Bool) (l : List Nat) : Int := if neg then -(val l : Int) else (val l : Int)

/-- A value that holds the number z in normal form. -/
def WhZ (w : World) (v : Value) (z : Int) : Prop := ∃ A c, v = .agg #[.bool (decide (z < 0)), .slice A (digs z.natAbs).length c] ∧ Sl w (.slice A (digs z.natAbs).length c) (digs z.natAbs)

theorem sum_pos_sign (neg : Bool) (m : Nat) : (neg && decide (0 < (digs m).length)) = decide ((if neg then -(m : Int) else (m : Int)) < 0) := by
  cases neg
  · simp
  · rcases Nat.eq_zero_or_pos m with h | h
    · subst h; simp [digs_zero]
    · have : (digs m).length ≠ 0 := by
        intro e
        have := digs_eq_nil.1 (List.eq_nil_of_length_eq_zero e)
        omega
      simp
      omega

theorem Sl.setCell {w : World} {v : Value} {l : List Nat} (h : Sl w v l) (p : Addr) (u : Value) (hp : ∀ x, w.cell? p ≠ some (.int .u16 x)) : Sl (w.setCell p u) v l := by
  obtain ⟨h1, h2, A, c, h3, h4, h5, h6⟩ := h
  refine ⟨h1, h2, A, c, h3, h4, h5, fun hne => ?_⟩
  obtain ⟨b, off, k1, k2, k3⟩ := h6 hne
  refine ⟨b, off, k1, by simpa [World.setCell] using k2, fun j hj => ?_⟩
  have := k3 j hj
  rw [World.cell?_setCell_other]
  · exact this
  · rintro rfl
    exact hp _ this

/-- A number's two cells are no limbs: to store into them leaves limbs as they are. -/
theorem Sl.store2 {w : World} {v : Value} {l : List Nat} (h : Sl w v l) {g : Nat} {a : Bool} {A : Option Addr} {n c : Nat} (hb : Blk w g 26 #[.bool a, .slice A n c]) (x : Bool) (B : Option Addr) (m d : Nat) :
    Sl ((w.setCell ⟨g, 0, none⟩ (.bool x)).setCell ⟨g, 1, none⟩ (.slice B m d)) v l := by
  have h1 := h.setCell ⟨g, 0, none⟩ (.bool x) (fun y e => by rw [hb.cell 0] at e; cases e)
  exact h1.setCell ⟨g, 1, none⟩ _ (fun y e => by rw [(hb.set_ 0 (.bool x)).cell 1] at e; cases e)

theorem below_of_drew {n : Nat} {w w' : World} (h : Below n w.drew w') : Below n w w' := ⟨h.os, h.tape, h.output, h.size, h.block⟩

set_option maxRecDepth 100000 in
set_option maxHeartbeats 400000 in
theorem sum_same (neg : Bool) (la lb : List Nat) (A B : Option Addr) (na nb ca cb : Nat) (w : World) (hsa : Sl w (.slice A na ca) la) (hsb : Sl w (.slice B nb cb) lb) (ha : la.length ≤ 4000) (hb : lb.length ≤ 4000) :
    Calls Try.prog 39 #[.agg #[.bool neg, .slice A na ca], .agg #[.bool neg, .slice B nb cb]] w fun e w' => ∃ A' c', e = .returned (.agg #[.bool (neg && decide (0 < (digs (val la + val lb)).length)), .slice A' (digs (val la + val lb)).length c']) ∧ Sl w' (.slice A' (digs (val la + val lb)).length c') (digs (val la + val lb)) ∧ Below w.heap.size w w' := by
  go_enter Try.func39, Try.ntmps39
  go_wp2
  obtain ⟨W0, hW0⟩ : ∃ W0, ((w.alloc (.cells #[.bool neg, .slice A na ca] 26)).alloc (.cells #[.bool neg, .slice B nb cb] 26)).alloc (.cells #[.bool false, .slice none 0 0] 26) = W0 := ⟨_, rfl⟩
  have b0 : Blk W0 w.heap.size 26 #[.bool neg, .slice A na ca] := by rw [← hW0]; exact ((Blk.new w _ _).alloc _).alloc _
  have b1 : Blk W0 (w.heap.size + 1) 26 #[.bool neg, .slice B nb cb] := by
    rw [← hW0]
    have := (Blk.new (w.alloc (.cells #[.bool neg, .slice A na ca] 26)) 26 #[.bool neg, .slice B nb cb]).alloc (.cells #[.bool false, .slice none 0 0] 26)
    rwa [World.size_alloc] at this
  have b2 : Blk W0 (w.heap.size + 2) 26 #[.bool false, .slice none 0 0] := by
    rw [← hW0]
    have := (Blk.new ((w.alloc (.cells #[.bool neg, .slice A na ca] 26)).alloc (.cells #[.bool neg, .slice B nb cb] 26)) 26 #[.bool false, .slice none 0 0])
    rwa [World.size_alloc, World.size_alloc] at this
  have bw : Below w.heap.size w W0 := by rw [← hW0]; exact (by repeat (first | exact Below.refl _ _ | assumption | refine Below.alloc ?_ (by first | (simp; done) | (simp; omega) | omega) _ | refine Below.setCell ?_ (by first | (simp; done) | (simp; omega) | omega) _ | refine Below.drew ?_))
  rw [hW0]
  clear hW0
  have c1 : W0.cell? ⟨w.heap.size, 0, none⟩ = some (.bool neg) := (b0.cell 0).trans rfl
  have c2 : W0.cell? ⟨w.heap.size, 1, none⟩ = some (.slice A na ca) := (b0.cell 1).trans rfl
  have c3 : W0.cell? ⟨w.heap.size + 1, 1, none⟩ = some (.slice B nb cb) := (b1.cell 1).trans rfl
  have c4 : W0.cell? ⟨w.heap.size + 2, 0, none⟩ = some (.bool false) := (b2.cell 0).trans rfl
  have c5 : W0.cell? ⟨w.heap.size + 2, 1, none⟩ = some (.slice none 0 0) := (b2.cell 1).trans rfl
  have f4 := b2.frozen 0
  have f5 := b2.frozen 1
  have l0 := b0.lt
  have l1 := b1.lt
  have l2 := b2.lt
  have s1 := hsa.below bw
  have s2 := hsb.below bw
  go_region_held3 (fun w' => w'.cell? ⟨w.heap.size, 0, none⟩ = some (.bool neg) ∧ w'.cell? ⟨w.heap.size, 1, none⟩ = some (.slice A na ca) ∧ w'.cell? ⟨w.heap.size + 1, 1, none⟩ = some (.slice B nb cb))
    (first | exact ⟨c1, c2, c3⟩ | exact ⟨k1, k2, k3⟩ | exact ⟨m1, m2, m3⟩ | (refine ⟨?_, ?_, ?_⟩ <;> (simp [go_sem, m1, m2, m3]; done)))
    (first | (go_at_call 59; refine (add_sl (w := W0.drew) s1 s2 (by omega) (by omega)).mono ?_; rintro e w1 ⟨v, rfl, hs, hbx⟩; have hb1 := below_of_drew hbx; clear hbx; have k1 := (hb1.cell (p := ⟨w.heap.size, 0, none⟩) l0).trans c1; have k2 := (hb1.cell (p := ⟨w.heap.size, 1, none⟩) l0).trans c2; have k3 := (hb1.cell (p := ⟨w.heap.size + 1, 1, none⟩) l1).trans c3; obtain ⟨_, _, A', c', rfl, _⟩ := id hs) | (go_at_call 54; refine (signed_any _ _ _ _ _).mono ?_; rintro e w2 ⟨rfl, hb2⟩; have m1 := (hb2.cell (p := ⟨w.heap.size, 0, none⟩) (Nat.lt_of_lt_of_le l0 hb1.size)).trans k1; have m2 := (hb2.cell (p := ⟨w.heap.size, 1, none⟩) (Nat.lt_of_lt_of_le l0 hb1.size)).trans k2; have m3 := (hb2.cell (p := ⟨w.heap.size + 1, 1, none⟩) (Nat.lt_of_lt_of_le l1 hb1.size)).trans k3; have d2 := (b2.below hb1 l2).below hb2 (Nat.lt_of_lt_of_le l2 hb1.size); have g4 := (d2.cell 0).trans (b := some (Value.bool false)) rfl; have g5 := (d2.cell 1).trans (b := some (Value.slice none 0 0)) rfl; have h4 := d2.frozen 0; have h5 := d2.frozen 1; have l4 := d2.lt))
  go_wp2
  have d4 := (d2.set_ 0 (.bool (neg && decide (0 < (digs (val la + val lb)).length)))).set_ 1 (.slice A' (digs (val la + val lb)).length c')
  have r0 := (d4.cell 0).trans (b := some (Value.bool (neg && decide (0 < (digs (val la + val lb)).length)))) rfl
  have r1 := (d4.cell 1).trans (b := some (Value.slice A' (digs (val la + val lb)).length c')) rfl
  exact bodyPost_ret (v := .agg #[.bool (neg && decide (0 < (digs (val la + val lb)).length)), .slice A' (digs (val la + val lb)).length c']) (by simp [results, Try.f39, go_sem, r0, r1]) rfl
    ⟨A', c', rfl, (hs.below hb2).store2 d2 _ _ _ _, ((bw.trans (hb1.mono bw.size)).trans (hb2.mono (Nat.le_trans bw.size hb1.size))).setCell (p := ⟨w.heap.size + 2, 0, none⟩) (by simp) _ |>.setCell (p := ⟨w.heap.size + 2, 1, none⟩) (by simp) _⟩
end Go.Proofs.Ytgnidjhfiagfnaa
