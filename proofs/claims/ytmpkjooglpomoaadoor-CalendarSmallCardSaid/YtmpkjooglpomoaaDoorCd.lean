/- The month of a date, found. -/
import Derived.Test.YtmpkjooglpomoaaDoorCc
import Derived.Deep.RegionHeld3
namespace Go.Proofs.YtmpkjooglpomoaaDoor
open Go.RowKit Go.Lib

theorem st_12 (q : Int) : st (12 * q) = yd (1900 + q) := by
  have e1 : yr (12 * q) = 1900 + q := by unfold yr; omega
  have e2 : mo (12 * q) = 1 := by unfold mo; omega
  rw [st_yc, e1, e2, cum_1]; omega
theorem find_guess {d : Int} (h : IsD d) : d / 366 * 12 ≤ mon d ∧ mon d < d / 366 * 12 + 24 := by
  obtain ⟨h0, h1⟩ := h
  have ⟨a, b, c⟩ := mon_in h0
  have e1 := st_12 (d / 366)
  have e2 := st_12 (d / 366 + 2)
  rw [Int.mul_comm] at e1
  rw [show 12 * (d / 366 + 2) = d / 366 * 12 + 24 by omega] at e2
  have b1 : yd (1900 + d / 366) ≤ d := by unfold yd lp; omega
  have b2 : d < yd (1900 + (d / 366 + 2)) := by unfold yd lp; omega
  constructor
  · by_cases g : mon d < d / 366 * 12
    · have := st_lt (j := mon d + 1) (k := d / 366 * 12) (by omega); omega
    · omega
  · by_cases g : d / 366 * 12 + 24 ≤ mon d
    · have := st_lt (j := d / 366 * 12 + 24) (k := mon d) g; omega
    · omega
theorem find_iff {d : Int} (h : IsD d) (k : Int) : d < st (k + 1) ↔ mon d ≤ k := by
  have ⟨a, b, c⟩ := mon_in h.1
  constructor
  · intro g
    by_cases e : mon d ≤ k
    · exact e
    · have := st_lt (j := k + 1) (k := mon d) (by omega); omega
  · intro g
    have := st_lt (j := mon d + 1) (k := k + 1) (by omega); omega

theorem cell_drew {w : World} {a : Addr} {v : Value} (h : w.cell? a = some v) : w.drew.cell? a = some v := by simpa using h

set_option maxRecDepth 100000 in
set_option maxHeartbeats 2000000 in
theorem find_any {d : Int} {w : World} (hL : Laid w) (h : IsD d) : Calls Tryd.prog 48 #[.int .i64 d] w fun e w' => e = .returned (.int .i64 (mon d)) ∧ Below w.heap.size w w' := by
  have ⟨g1, g2⟩ := find_guess h
  have HI := hid (find_iff h)
  obtain ⟨h0, h1⟩ := h
  obtain ⟨f, hf⟩ : ∃ f, d / 366 * 12 = f := ⟨_, rfl⟩
  rw [hf] at g1 g2
  have f0 : 0 ≤ f := by omega
  have f1 : f ≤ 2148 := by omega
  obtain ⟨t, ht⟩ : ∃ t, mon d = f + t := ⟨mon d - f, by omega⟩
  have t0 : 0 ≤ t := by omega
  have t1 : t < 24 := by omega
  have HT := hid ht
  have HF := hid hf
  have HL := hid hL
  have hs := hL.size
  have e1 : IntKind.i64.wrap (f + t) = f + t := IntWalk.i64_in _ (by omega)
  obtain ⟨W, hW⟩ : ∃ W, (w.alloc (.cells #[.int .i64 d] 3)).alloc (.cells #[.int .i64 f] 3) = W := ⟨_, rfl⟩
  have bw : Below w.heap.size w W := by rw [← hW]; exact (by repeat (first | exact Below.refl _ _ | assumption | refine Below.alloc ?_ (by first | (simp; done) | (simp; omega) | omega) _ | refine Below.setCell ?_ (by first | (simp; done) | (simp; omega) | omega) _ | refine Below.drew ?_))
  have l0 : w.heap.size + 1 < W.heap.size := by rw [← hW]; simp
  have k0 : W.cell? ⟨w.heap.size, 0, none⟩ = some (.int .i64 d) := by rw [← hW]; simp
  have k1 : W.cell? ⟨w.heap.size + 1, 0, none⟩ = some (.int .i64 f) := by rw [← hW]; simp
  have HW := hid hW
  have H1 : Hid (∀ w1, Below W.heap.size W w1 → Calls Tryd.prog 57 #[.int .i64 24, .func (.func 58) #[] #[.pointer (some ⟨w.heap.size + 1, 0, none⟩), .pointer (some ⟨w.heap.size, 0, none⟩)]] w1 fun e w' => e = .returned (.int .i64 t) ∧ Below w1.heap.size w1 w') := fun w1 hb =>
    search_any f d t _ _ ((HL.out.below bw).below hb) ((hb.cell (p := ⟨w.heap.size + 1, 0, none⟩) l0).trans k1) ((hb.cell (p := ⟨w.heap.size, 0, none⟩) (show w.heap.size < W.heap.size by omega)).trans k0)
      (Nat.lt_of_lt_of_le l0 hb.size) (Nat.lt_of_lt_of_le (show w.heap.size < W.heap.size by omega) hb.size) f0 (by omega) t0 (by omega) (fun i hi0 hi1 => by rw [HI.out, HT.out]; omega)
  clear hf ht hL g1 g2 hW
  rw [HT.out]
  go_enter Tryd.func48, Tryd.ntmps48
  go_wp2
  rw [HF.out, HW.out]
  go_region_held3 (fun w' => w'.cell? ⟨w.heap.size, 0, none⟩ = some (.int .i64 d) ∧ w'.cell? ⟨w.heap.size + 1, 0, none⟩ = some (.int .i64 f))
    (first | (with_reducible exact ⟨cell_drew k0, cell_drew k1⟩) | (with_reducible exact ⟨ka, kb⟩) | go_keep)
    (first | (go_at_call 57; refine (H1.out _ (by repeat (first | exact Below.refl _ _ | assumption | refine Below.alloc ?_ (by first | (simp; done) | (simp; omega) | omega) _ | refine Below.setCell ?_ (by first | (simp; done) | (simp; omega) | omega) _ | refine Below.drew ?_))).mono ?_; rintro e w1 ⟨rfl, hbx⟩; have ka := (hbx.cell (p := ⟨w.heap.size, 0, none⟩) (by simp; omega)).trans k0; have kb := (hbx.cell (p := ⟨w.heap.size + 1, 0, none⟩) (by simp; omega)).trans k1) | fail)
  go_wp2
  go_ret
  exact ⟨rfl, bw.trans ((show Below W.heap.size W W.drew from (by repeat (first | exact Below.refl _ _ | assumption | refine Below.alloc ?_ (by first | (simp; done) | (simp; omega) | omega) _ | refine Below.setCell ?_ (by first | (simp; done) | (simp; omega) | omega) _ | refine Below.drew ?_))).trans (hbx.mono (by simp)) |>.mono bw.size)⟩
end Go.Proofs.YtmpkjooglpomoaaDoor
