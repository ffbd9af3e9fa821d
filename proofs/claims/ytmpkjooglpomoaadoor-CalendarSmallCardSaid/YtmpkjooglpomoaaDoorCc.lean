/- Contracts: the search for the month of a date. -/
import Derived.Test.YtmpkjooglpomoaaDoorCb
import Derived.Deep.QuietTactic
import Derived.BigQuiet
namespace Go.Proofs.YtmpkjooglpomoaaDoor
open Go.RowKit Go.Lib

theorem below_drewN (w : World) (n : Nat) : Below w.heap.size w (w.drewN n) := by
  induction n with
  | zero => exact Below.refl _ _
  | succ n ih => rw [← World.drew_drewN]; exact ih.drew

set_option maxRecDepth 100000 in
set_option maxHeartbeats 400000 in
theorem closure_any (i f d t : Int) (b c : Nat) {w : World} (hL : Laid w) (hb : w.cell? ⟨b, 0, none⟩ = some (.int .i64 f)) (hc : w.cell? ⟨c, 0, none⟩ = some (.int .i64 d))
    (hf : 0 ≤ f) (hi : 0 ≤ i) (hm : f + i ≤ 4000) (ht : d < st (f + i + 1) ↔ t ≤ i) :
    Calls Tryd.prog 58 #[.int .i64 i, .pointer (some ⟨b, 0, none⟩), .pointer (some ⟨c, 0, none⟩)] w fun e w' => e = .returned (.bool (decide (t ≤ i))) ∧ Below w.heap.size w w' := by
  have HL := hid hL
  have HT := hid ht
  clear hL ht
  have e1 : IntKind.i64.wrap (f + i) = f + i := IntWalk.i64_in _ (by omega)
  have e2 : IntKind.i64.wrap (f + i + 1) = f + i + 1 := IntWalk.i64_in _ (by omega)
  go_enter Tryd.func58, Tryd.ntmps58
  go_wp2
  go_quiet ((go_at_call 36; exact Calls.quiet_of_same (start_any _ (HL.out.drewN _) (by omega) (by omega))))
  go_wp2
  go_ret
  exact ⟨ret_bool (by rw [Bool.eq_iff_iff]; simp [HT.out]), below_drewN _ _⟩

set_option maxRecDepth 100000 in
set_option maxHeartbeats 400000 in
theorem search_any (f d t : Int) (b c : Nat) {w : World} (hL : Laid w) (hb : w.cell? ⟨b, 0, none⟩ = some (.int .i64 f)) (hc : w.cell? ⟨c, 0, none⟩ = some (.int .i64 d))
    (hbz : b < w.heap.size) (hcz : c < w.heap.size)
    (hf : 0 ≤ f) (hm : f ≤ 3000) (t0 : 0 ≤ t) (t1 : t ≤ 24) (ht : ∀ i, 0 ≤ i → i < 24 → (d < st (f + i + 1) ↔ t ≤ i)) :
    Calls Tryd.prog 57 #[.int .i64 24, .func (.func 58) #[] #[.pointer (some ⟨b, 0, none⟩), .pointer (some ⟨c, 0, none⟩)]] w fun e w' => e = .returned (.int .i64 t) ∧ Below w.heap.size w w' := by
  have HL := hid hL
  have HT := hid ht
  have HB := hid hb
  have HC := hid hc
  clear hL ht hb hc
  go_enter Tryd.func57, Tryd.ntmps57
  go_wp2
  go_loopw [5, 6] (fun i j wr => ∃ x y : Int, i = .int .i64 x ∧ j = .int .i64 y ∧ 0 ≤ x ∧ x ≤ t ∧ t ≤ y ∧ y ≤ 24 ∧ Below w.heap.size w wr) (fun i j _ => (intOf j - intOf i).toNat)
  case atStart => exact ⟨0, 24, rfl, rfl, by omega, by omega, by omega, by omega, Below.refl _ _⟩
  case round =>
    obtain ⟨x, y, rfl, rfl, x0, x1, y0, y1, hw⟩ := hrel
    by_cases hlt : x < y
    · have HX := hid (HT.out ((x + y) / 2) (by omega) (by omega))
      have hL' := HL.out.below hw
      have hb' : wr.cell? ⟨b, 0, none⟩ = some (.int .i64 f) := (hw.cell (p := ⟨b, 0, none⟩) hbz).trans HB.out
      have hc' : wr.cell? ⟨c, 0, none⟩ = some (.int .i64 d) := (hw.cell (p := ⟨c, 0, none⟩) hcz).trans HC.out
      have HC' := hid (closure_any ((x + y) / 2) f d t b c hL' hb' hc' hf (by omega) (by omega) HX.out)
      clear hL' hb' hc'
      have h0 : 0 ≤ (x + y) / 2 := by omega
      have h24 : (x + y) / 2 < 24 := by omega
      by_cases hc : t ≤ (x + y) / 2
      · rw [decide_eq_true hc] at HC'
        go_wp2_with (go_at_call 58; refine HC'.out.mono ?_; rintro e w1 ⟨rfl, hb1⟩)
        go_roundw
        case rel => exact ⟨x, (x + y) / 2, rfl, rfl, by omega, by omega, by omega, by omega, hw.trans (hb1.mono hw.size)⟩
        case measure => simp [intOf]; omega
      · rw [decide_eq_false hc] at HC'
        go_wp2_with (go_at_call 58; refine HC'.out.mono ?_; rintro e w1 ⟨rfl, hb1⟩)
        go_roundw
        case rel => exact ⟨(x + y) / 2 + 1, y, rfl, rfl, by omega, by omega, by omega, by omega, hw.trans (hb1.mono hw.size)⟩
        case measure => simp [intOf]; omega
    · obtain rfl : x = t := by omega
      go_wp2
      go_ret
      exact ⟨rfl, hw⟩
end Go.Proofs.YtmpkjooglpomoaaDoor
