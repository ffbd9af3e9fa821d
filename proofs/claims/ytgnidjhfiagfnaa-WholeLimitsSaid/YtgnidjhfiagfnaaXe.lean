/- The order and the conversion of what is no number. Conditions: none. -/
import Derived.Test.YtgnidjhfiagfnaaXd
namespace Go.Proofs.Ytgnidjhfiagfnaa
open Go.RowKit

set_option maxRecDepth 100000 in
set_option maxHeartbeats 2000000 in
theorem cmp_bad {x y : Bool} {la lb : List Nat} {A B : Option Addr} {na nb ca cb : Nat} {w : World} (hsa : Sl w (.slice A na ca) la) (hsb : Sl w (.slice B nb cb) lb) (hna : Hid (la.length = na)) (hnb : Hid (lb.length = nb)) (hv : (validB x la && validB y lb) = false) :
    Calls Try.prog 33 #[.agg #[.bool x, .slice A na ca], .agg #[.bool y, .slice B nb cb]] w fun e w' => e = .returned (.int .i64 0) ∧ Below w.heap.size w w' := by
  obtain ⟨W0, hW0⟩ : ∃ W0, ((w.alloc (.cells #[.bool x, .slice A na ca] 26)).alloc (.cells #[.bool y, .slice B nb cb] 26)).alloc (.cells #[.bool x, .slice A na ca, .bool y, .slice B nb cb] 26) = W0 := ⟨_, rfl⟩
  have b4 : Blk W0 (w.heap.size + 1 + 1) 26 #[.bool x, .slice A na ca, .bool y, .slice B nb cb] := by
    rw [← hW0]
    have := (Blk.new ((w.alloc (.cells #[.bool x, .slice A na ca] 26)).alloc (.cells #[.bool y, .slice B nb cb] 26)) 26 #[.bool x, .slice A na ca, .bool y, .slice B nb cb])
    rwa [World.size_alloc, World.size_alloc] at this
  have bw : Below w.heap.size w W0 := by rw [← hW0]; exact (by repeat (first | exact Below.refl _ _ | assumption | refine Below.alloc ?_ (by first | (simp; done) | (simp; omega) | omega) _ | refine Below.setCell ?_ (by first | (simp; done) | (simp; omega) | omega) _ | refine Below.drew ?_))
  have HW : Hid (((w.alloc (.cells #[.bool x, .slice A na ca] 26)).alloc (.cells #[.bool y, .slice B nb cb] 26)).alloc (.cells #[.bool x, .slice A na ca, .bool y, .slice B nb cb] 26) = W0) := hW0
  clear hW0
  have hav := allValid2 (hsa.below bw) hna (hsb.below bw) hnb b4
  rw [hv] at hav
  have HJ : Hid (Calls Try.prog 48 #[.slice (some ⟨w.heap.size + 1 + 1, 0, none⟩) 2 2] W0 fun e w' => e = .returned (.bool false) ∧ Below W0.heap.size W0 w') := hav
  clear hav hv hsa hsb
  go_enter Try.func33, Try.ntmps33
  go_wp2_with (rw [HW.out]; go_at_call 48; refine HJ.out.mono ?_; rintro e w1 ⟨rfl, hb1⟩)
  go_ret
  exact ⟨rfl, bw.trans (hb1.mono bw.size)⟩

set_option maxRecDepth 100000 in
set_option maxHeartbeats 2000000 in
theorem int_bad (x : Bool) (l : List Nat) (A : Option Addr) (n c : Nat) (w : World) (hs : Sl w (.slice A n c) l) (hn : Hid (l.length = n)) (hv : validB x l = false) :
    Calls Try.prog 26 #[.agg #[.bool x, .slice A n c]] w fun e w' => e = .returned (.tuple #[.int .i64 0, .int .i64 2]) ∧ Below w.heap.size w w' := by
  obtain ⟨W0, hW0⟩ : ∃ W0, (w.alloc (.cells #[.bool x, .slice A n c] 26)).alloc (.cells #[.bool x, .slice A n c] 26) = W0 := ⟨_, rfl⟩
  have b1 : Blk W0 (w.heap.size + 1) 26 #[.bool x, .slice A n c] := by
    rw [← hW0]
    have := (Blk.new (w.alloc (.cells #[.bool x, .slice A n c] 26)) 26 #[.bool x, .slice A n c])
    rwa [World.size_alloc] at this
  have bw : Below w.heap.size w W0 := by rw [← hW0]; exact (by repeat (first | exact Below.refl _ _ | assumption | refine Below.alloc ?_ (by first | (simp; done) | (simp; omega) | omega) _ | refine Below.setCell ?_ (by first | (simp; done) | (simp; omega) | omega) _ | refine Below.drew ?_))
  have HW : Hid ((w.alloc (.cells #[.bool x, .slice A n c] 26)).alloc (.cells #[.bool x, .slice A n c] 26) = W0) := hW0
  clear hW0
  have h1 := allValid1 (hs.below bw) hn b1
  rw [hv] at h1
  have H1 : Hid (Calls Try.prog 48 #[.slice (some ⟨w.heap.size + 1, 0, none⟩) 1 1] W0 fun e w' => e = .returned (.bool false) ∧ Below W0.heap.size W0 w') := h1
  clear h1 hv hs
  go_enter Try.func26, Try.ntmps26
  go_wp2_with (rw [HW.out]; go_at_call 48; refine H1.out.mono ?_; rintro e w1 ⟨rfl, hb1⟩)
  go_ret2
  exact ⟨rfl, bw.trans (hb1.mono bw.size)⟩

theorem cmp_inv {w : World} {va vb : Value} {x y : Bool} {la lb : List Nat} (ha : Wh w va x la) (hb : Wh w vb y lb) (hv : (validB x la && validB y lb) = false) :
    Calls Try.prog 33 #[va, vb] w fun e w' => e = .returned (.int .i64 0) ∧ Below w.heap.size w w' := by
  obtain ⟨A, c, rfl, hs⟩ := ha
  obtain ⟨B, d, rfl, ht⟩ := hb
  exact cmp_bad hs ht rfl rfl hv

theorem int_inv {w : World} {v : Value} {x : Bool} {l : List Nat} (h : Wh w v x l) (hv : validB x l = false) :
    Calls Try.prog 26 #[v] w fun e w' => e = .returned (.tuple #[.int .i64 0, .int .i64 2]) ∧ Below w.heap.size w w' := by
  obtain ⟨A, c, rfl, hs⟩ := h
  exact int_bad x l A _ c w hs rfl hv
end Go.Proofs.Ytgnidjhfiagfnaa
