/- Addition, subtraction, comparison of absolute values, and the limbs of a word. Conditions: the limbs are in memory and not too many. -/
import Derived.Test.YtgnidjhfiagfnaaWf
namespace Go.Proofs.Ytgnidjhfiagfnaa
open Go.RowKit

theorem Sl.below {w w' : World} {v : Value} {l : List Nat} (h : Sl w v l) (hb : Below w.heap.size w w') : Sl w' v l := by
  obtain ⟨h1, h2, A, c, h3, h4, h5, h6⟩ := h
  refine ⟨h1, h2, A, c, h3, h4, h5, fun hne => ?_⟩
  obtain ⟨b, off, k1, k2, k3⟩ := h6 hne
  exact ⟨b, off, k1, Nat.lt_of_lt_of_le k2 hb.size, fun j hj => (hb.cell (p := ⟨b, off + j, none⟩) k2).trans (k3 j hj)⟩

theorem Sl.nil (w : World) : Sl w (.slice none 0 0) [] := ⟨limbs_nil, by simp, none, 0, rfl, by simp, by unfold maxLen; omega, fun h => absurd rfl h⟩

theorem fit_add : Fit 1 1 0 2 := ⟨by omega, by omega, fun u v hu hv => by omega⟩
theorem fit_sub : Fit 1 (-1) 1 1 := ⟨by omega, by omega, fun u v hu hv => by omega⟩

theorem combine_sl {w : World} {va vb : Value} {la lb : List Nat} (hA : Sl w va la) (hB : Sl w vb lb) (ha : la.length ≤ 1099511627000) (hb : lb.length ≤ 1099511627000) {x y : Int} {m1 m2 : Nat} (hfit : Fit x y m1 m2) (z : Int) (hz : 0 ≤ z) (hval : (val la : Int) * x + val lb * y = z) :
    Calls Try.prog 82 #[va, .int .i64 x, vb, .int .i64 y] w fun e w' => ∃ v, e = .returned v ∧ Sl w' v (digs z.toNat) ∧ Below w.heap.size w w' := by
  obtain ⟨a1, _, A, ca, rfl, _, _, a2⟩ := hA
  obtain ⟨b1, _, B, cb, rfl, _, _, b2⟩ := hB
  rcases Nat.lt_trichotomy la.length lb.length with h | h | h
  · exact combine_lt la lb A B _ _ ca cb x y m1 m2 w rfl rfl ha hb a1 b1 a2 b2 hfit z hz hval h
  · rw [← h]
    exact combine_eq la lb A B _ ca cb x y m1 m2 w rfl h.symm ha ha a1 b1 a2 b2 hfit z hz hval
  · exact combine_gt la lb A B _ _ ca cb x y m1 m2 w rfl rfl ha hb a1 b1 a2 b2 hfit z hz hval h

set_option maxRecDepth 100000 in
set_option maxHeartbeats 400000 in
theorem add_sl {w : World} {va vb : Value} {la lb : List Nat} (hA : Sl w va la) (hB : Sl w vb lb) (ha : la.length ≤ 1099511627000) (hb : lb.length ≤ 1099511627000) :
    Calls Try.prog 59 #[va, vb] w fun e w' => ∃ v, e = .returned v ∧ Sl w' v (digs (val la + val lb)) ∧ Below w.heap.size w w' := by
  have hc := combine_sl hA hB ha hb fit_add ((val la + val lb : Nat) : Int) (by omega) (by omega)
  have HC : Hid (Calls Try.prog 82 #[va, .int .i64 1, vb, .int .i64 1] w fun e w' => ∃ v, e = .returned v ∧ Sl w' v (digs (val la + val lb)) ∧ Below w.heap.size w w') := hc
  clear hc
  go_enter Try.func59, Try.ntmps59
  go_wp2_with (go_at_call 82; refine HC.out.mono ?_; rintro e w1 ⟨v, rfl, hs, hb1⟩)
  go_ret
  exact ⟨v, rfl, hs, hb1⟩

set_option maxRecDepth 100000 in
set_option maxHeartbeats 400000 in
theorem subtract_sl {w : World} {va vb : Value} {la lb : List Nat} (hA : Sl w va la) (hB : Sl w vb lb) (ha : la.length ≤ 1099511627000) (hb : lb.length ≤ 1099511627000) (hle : val lb ≤ val la) :
    Calls Try.prog 61 #[va, vb] w fun e w' => ∃ v, e = .returned v ∧ Sl w' v (digs (val la - val lb)) ∧ Below w.heap.size w w' := by
  have hc := combine_sl hA hB ha hb fit_sub ((val la - val lb : Nat) : Int) (by omega) (by omega)
  have HC : Hid (Calls Try.prog 82 #[va, .int .i64 1, vb, .int .i64 (-1)] w fun e w' => ∃ v, e = .returned v ∧ Sl w' v (digs (val la - val lb)) ∧ Below w.heap.size w w') := hc
  clear hc
  go_enter Try.func61, Try.ntmps61
  go_wp2_with (go_at_call 82; refine HC.out.mono ?_; rintro e w1 ⟨v, rfl, hs, hb1⟩)
  go_ret
  exact ⟨v, rfl, hs, hb1⟩

theorem compare_sl {w : World} {va vb : Value} {la lb : List Nat} (hA : Sl w va la) (hB : Sl w vb lb) (ha : la.length ≤ 1099511627000) (hb : lb.length ≤ 1099511627000) :
    Calls Try.prog 62 #[va, vb] w fun e w' => e = .returned (.int .i64 (cmpL la lb)) ∧ Below w.heap.size w w' := by
  obtain ⟨a1, _, A, ca, rfl, _, _, a2⟩ := hA
  obtain ⟨b1, _, B, cb, rfl, _, _, b2⟩ := hB
  unfold cmpL
  rcases Nat.lt_trichotomy la.length lb.length with h | h | h
  · rw [if_neg (by omega), if_pos h]
    exact compare_lt A B _ _ ca cb w (by omega) h
  · rw [if_pos h, ← h]
    exact compare_same la lb A B _ ca cb w rfl h.symm (by omega) a1 b1 a2 b2
  · rw [if_neg (by omega), if_neg (by omega)]
    exact compare_gt A B _ _ ca cb w (by omega) h

theorem trim_sl {w : World} {va : Value} {l : List Nat} (hA : Sl w va l) :
    Calls Try.prog 73 #[va] w fun e w' => ∃ v, e = .returned v ∧ Sl w' v (digs (val l)) ∧ w' = w := by
  obtain ⟨a1, a0, A, c, rfl, a3, a4, a2⟩ := hA
  refine (trim_any l A c w a3 (by omega) a1 a2).mono ?_
  rintro e w' ⟨rfl, rfl⟩
  have hk := cutLen_digs a1
  have hle := cutLen_le l l.length
  refine ⟨_, rfl, ⟨limbs_digs _, by omega, A, c, by rw [hk], by omega, a4, ?_⟩, rfl⟩
  rw [← cut_all a1]; exact at_take a2 _

/-- The array of a word's limbs when k of them are set. -/
def limbsArr (n : Int) (k : Nat) : Array Value :=
  #[.int .u16 (if 0 < k then n % 65536 else 0), .int .u16 (if 1 < k then n / 65536 % 65536 else 0), .int .u16 (if 2 < k then n / 4294967296 % 65536 else 0), .int .u16 (if 3 < k then n / 281474976710656 % 65536 else 0)]

/-- The four limbs of a word. -/
def wordLimbs (n : Nat) : List Nat := [n % 65536, n / 65536 % 65536, n / 4294967296 % 65536, n / 281474976710656 % 65536]
theorem val_word {n : Int} (h0 : 0 ≤ n) (h1 : n < 18446744073709551616) : val (wordLimbs n.toNat) = n.toNat := by
  simp only [wordLimbs, val]
  omega
theorem word_sl {w : World} {g : Nat} {n : Int} (h : Blk w g 83 (limbsArr n 4)) (h0 : 0 ≤ n) (h1 : n < 18446744073709551616) : Sl w (.slice (some ⟨g, 0, none⟩) 4 4) (wordLimbs n.toNat) := by
  obtain ⟨m, rfl⟩ := Int.eq_ofNat_of_zero_le h0
  simp only [Int.toNat_natCast]
  refine ⟨?_, by simp [wordLimbs], some ⟨g, 0, none⟩, 4, rfl, by simp [wordLimbs], by unfold maxLen; omega, fun _ => ⟨g, 0, rfl, h.lt, fun j hj => ?_⟩⟩
  · intro x hx
    simp [wordLimbs] at hx
    omega
  · have hj4 : j < 4 := by simpa [wordLimbs] using hj
    rw [Nat.zero_add, h.cell j]
    match j, hj4 with
    | 0, _ => simp [limbsArr, nth, wordLimbs]
    | 1, _ => simp [limbsArr, nth, wordLimbs]
    | 2, _ => simp [limbsArr, nth, wordLimbs]
    | 3, _ => simp [limbsArr, nth, wordLimbs]

set_option maxRecDepth 100000 in
set_option maxHeartbeats 400000 in
theorem limbsOf_any (n : Int) (w : World) (h0 : 0 ≤ n) (h1 : n < 18446744073709551616) :
    Calls Try.prog 60 #[.int .u64 n] w fun e w' => ∃ v, e = .returned v ∧ Sl w' v (digs n.toNat) ∧ Below w.heap.size w w' := by
  go_enter Try.func60, Try.ntmps60
  go_wp2
  go_loopw [5] (fun i wr => ∃ k : Nat, k ≤ 4 ∧ i = .int .i64 k ∧ Blk wr w.heap.size 83 (limbsArr n k) ∧ Below w.heap.size w wr) (fun i _ => 4 - (intOf i).toNat)
  case atStart => exact ⟨0, by omega, rfl, Blk.new w 83 _, (by repeat (first | exact Below.refl _ _ | assumption | refine Below.alloc ?_ (by first | (simp; done) | (simp; omega) | omega) _ | refine Below.setCell ?_ (by first | (simp; done) | (simp; omega) | omega) _ | refine Below.drew ?_))⟩
  case round =>
    obtain ⟨k, hk, rfl, hblk, hbel⟩ := hrel
    have hlt := hblk.lt
    have g0 := hblk.frozen 0
    have g1 := hblk.frozen 1
    have g2 := hblk.frozen 2
    have g3 := hblk.frozen 3
    have hc0 := hblk.cell 0
    have hc1 := hblk.cell 1
    have hc2 := hblk.cell 2
    have hc3 := hblk.cell 3
    match k, hk with
    | 0, _ =>
      simp [limbsArr] at hc0
      clear hc1 hc2 hc3
      go_wp2
      exact ⟨⟨1, by omega, rfl, by have := hblk.set_ 0 (.int .u16 (IntKind.u16.wrap n)); simpa [limbsArr, wrap_u16] using this, hbel.setCell (p := ⟨w.heap.size, 0, none⟩) (Nat.le_refl _) _⟩, by simp [intOf]⟩
    | 1, _ =>
      simp [limbsArr] at hc1
      clear hc0 hc2 hc3
      go_wp2
      exact ⟨⟨2, by omega, rfl, by have := hblk.set_ 1 (.int .u16 (IntKind.u16.wrap (n / 65536))); simpa [limbsArr, wrap_u16] using this, hbel.setCell (p := ⟨w.heap.size, 1, none⟩) (Nat.le_refl _) _⟩, by simp [intOf]⟩
    | 2, _ =>
      simp [limbsArr] at hc2
      clear hc0 hc1 hc3
      go_wp2
      exact ⟨⟨3, by omega, rfl, by have := hblk.set_ 2 (.int .u16 (IntKind.u16.wrap (n / 4294967296))); simpa [limbsArr, wrap_u16] using this, hbel.setCell (p := ⟨w.heap.size, 2, none⟩) (Nat.le_refl _) _⟩, by simp [intOf]⟩
    | 3, _ =>
      simp [limbsArr] at hc3
      clear hc0 hc1 hc2
      go_wp2
      exact ⟨⟨4, by omega, rfl, by have e : n / 281474976710656 % 65536 = n / 281474976710656 := (by omega); have := hblk.set_ 3 (.int .u16 (n / 281474976710656)); simpa [limbsArr, e] using this, hbel.setCell (p := ⟨w.heap.size, 3, none⟩) (Nat.le_refl _) _⟩, by simp [intOf]⟩
    | 4, _ =>
      clear hc0 hc1 hc2 hc3 g0 g1 g2 g3
      have hsl := word_sl hblk h0 h1
      go_wp2_with (go_at_call 73; refine (trim_sl hsl).mono ?_; rintro e w2 ⟨v, rfl, hs, rfl⟩)
      go_ret
      rw [val_word h0 h1] at hs
      exact ⟨v, rfl, hs, hbel⟩
end Go.Proofs.Ytgnidjhfiagfnaa
