/- A slice that was lent is written over. -/
import Derived.Test.YtpafnakepgjmnaaTe
namespace Go.Proofs.Ytpafnakepgjmnaa
open Go.RowKit Go.Lib Go.Shelf

theorem grown_below {w w1 w2 : World} {r : Option Nat} (h : w.grownBy w1 r) (hb : Below w1.heap.size w1 w2) : w.grownBy w2 r :=
  ⟨hb.os.trans h.os, hb.tape.trans h.tape, hb.output.trans h.output, Nat.le_trans h.size hb.size, fun k h1 h2 => (hb.block k (Nat.lt_of_lt_of_le h1 h.size)).trans (h.block k h1 h2)⟩
theorem grown_set {w w1 : World} {g : Nat} (h : w.grownBy w1 (some g)) (i : Nat) (v : Value) : w.grownBy (w1.setCell ⟨g, i, none⟩ v) (some g) := by
  exact ⟨h.os, h.tape, h.output, Nat.le_trans h.size (by simp [World.setCell]), fun k h1 h3 => (Below.heap_setCell w1 ⟨g, i, none⟩ v k (fun e => h3 (by rw [e]))).trans (h.block k h1 h3)⟩
/-- A block of m spans. -/
def RowN (w : World) (g m : Nat) : Prop := ∃ cs, Blk w g 34 cs ∧ cs.size = m * 2
section
variable {w w' : World} {g m : Nat}
theorem RowN.lt (h : RowN w g m) : g < w.heap.size := by obtain ⟨cs, h1, _⟩ := h; exact h1.lt
theorem RowN.cell (h : RowN w g m) {i : Nat} (hi : i < m * 2) : ∃ v, w.cell? ⟨g, i, none⟩ = some v := by
  obtain ⟨cs, h1, h2⟩ := h
  exact ⟨cs[i], by rw [h1.cell, Array.getElem?_eq_getElem (by omega)]⟩
theorem RowN.frozen (h : RowN w g m) (i : Nat) : w.frozen? ⟨g, i, none⟩ = false := by obtain ⟨cs, h1, _⟩ := h; exact h1.frozen i
theorem RowN.below (h : RowN w g m) (hb : Below w.heap.size w w') : RowN w' g m := by obtain ⟨cs, h1, h2⟩ := h; exact ⟨cs, h1.below hb h1.lt, h2⟩
theorem RowN.set (h : RowN w g m) (i : Nat) (v : Value) : RowN (w.setCell ⟨g, i, none⟩ v) g m := by obtain ⟨cs, h1, h2⟩ := h; exact ⟨_, h1.set_ i v, by simpa using h2⟩
theorem LentAt.row {base : Nat} {l : List Sp} (h : LentAt w base g l) : RowN w g (l.length + 12) := by
  have h2 := h.2.2
  rcases h2 with ⟨e, _⟩ | ⟨g', cap, cur, e, _, hg, _, _, hs, _⟩
  · simp at e
  · simp only [Value.slice.injEq, Option.some.injEq, Addr.mk.injEq] at e
    obtain ⟨⟨rfl, _, _⟩, _, rfl⟩ := e
    exact ⟨cur, hg, hs⟩
end

set_option maxRecDepth 100000 in
set_option maxHeartbeats 2000000 in
theorem over_any (n g : Nat) (w : World) (hm : n ≤ 1000) (hR : RowN w g (n + 12)) :
    Calls Try.prog 36 #[.slice (some ⟨g, 0, none⟩) n (n + 12)] w fun e w' => e = .returned (.tuple #[]) ∧ w.grownBy w' (some g) := by
  have HR := hid hR
  have hn12 : n + 12 ≤ n + 12 := Nat.le_refl _
  have hmin : min ((n : Int) + 12) ((n : Int) + 12) = (n : Int) + 12 := by omega
  clear hR
  go_enter Try.func36, Try.ntmps36
  go_wp2
  go_loopw [3] (fun i wr => ∃ k : Nat, k ≤ n + 12 ∧ i = .int .i64 k ∧ RowN wr g (n + 12) ∧ w.grownBy wr (some g)) (fun i _ => n + 12 - (intOf i).toNat)
  case atStart => exact ⟨0, by omega, rfl, HR.out, World.grownBy.refl _ _⟩
  case round =>
    clear HR
    obtain ⟨k, hk, rfl, hR, hb⟩ := hrel
    have HR := hid hR
    have HB := hid hb
    clear hR hb
    by_cases hlt : k < n + 12
    · have hki : (k : Int) < (n : Int) + 12 := by omega
      go_wp2_with fail
      refine (markSpan_any 2 k _ (by omega) (by omega) (by omega) (by omega)).mono ?_
      rintro e w3 ⟨rfl, h⟩
      have HR3 := hid (HR.out.below h)
      have HB3 := hid (grown_below HB.out h)
      obtain ⟨v0, d0⟩ := HR3.out.cell (i := k * 2) (by omega)
      obtain ⟨v1, d1⟩ := HR3.out.cell (i := k * 2 + 1) (by omega)
      have f0 := HR3.out.frozen (k * 2)
      have f1 := HR3.out.frozen (k * 2 + 1)
      clear h HR HB
      go_wp2
      go_roundw
      case rel => exact ⟨k + 1, by omega, by go_num, (HR3.out.set _ _).set _ _, grown_set (grown_set HB3.out _ _) _ _⟩
      case measure => simp [intOf]; omega
    · have hki : ¬ (k : Int) < (n : Int) + 12 := by omega
      go_wp2
      go_end0
      exact ⟨rfl, HB.out⟩
end Go.Proofs.Ytpafnakepgjmnaa
