/- The date some months later; whole months. -/
import Derived.Test.YtmpkjooglpomoaaDoorCd
namespace Go.Proofs.YtmpkjooglpomoaaDoor
open Go.RowKit Go.Lib

set_option maxRecDepth 100000 in
set_option maxHeartbeats 2000000 in
theorem later_no {d n : Int} {w : World} (hL : Laid w) (h : IsD d) (hn : ¬ IsM (mon d + n)) : Calls Tryd.prog 51 #[.int .i64 d, .int .i64 n] w fun e w' => e = .returned (.tuple #[.int .i64 0, .bool false]) ∧ Below w.heap.size w w' := by
  have HC := hid (fun w1 (h1 : Laid w1) => find_any h1 h)
  have ⟨b0, b1⟩ := mon_lt h.1 h.2
  obtain ⟨k, hk⟩ : ∃ k, mon d = k := ⟨_, rfl⟩
  rw [hk] at HC b0 b1 hn
  have HL := hid hL
  clear hL hk h
  by_cases h1 : n < -k
  · clear hn
    go_enter Tryd.func51, Tryd.ntmps51
    go_wp2_with (go_at_call 48; refine (HC.out _ HL.out).mono ?_; rintro e w1 ⟨rfl, hb⟩)
    go_ret2
    exact ⟨rfl, hb⟩
  · have h2 : ¬ n < 2154 - k := fun g => hn ⟨by omega, by omega⟩
    clear hn
    go_enter Tryd.func51, Tryd.ntmps51
    go_wp2_with (go_at_call 48; refine (HC.out _ HL.out).mono ?_; rintro e w1 ⟨rfl, hb⟩)
    go_ret2
    exact ⟨rfl, hb⟩

set_option maxRecDepth 100000 in
set_option maxHeartbeats 2000000 in
theorem later_yes {d n D : Int} {b : Bool} {w : World} (hL : Laid w) (h : IsD d) (hn : IsM (mon d + n)) (hD : toD d (mon d + n) = D) (hb : decide (D < 65536) = b) :
    Calls Tryd.prog 51 #[.int .i64 d, .int .i64 n] w fun e w' => e = .returned (.tuple #[.int .i64 D, .bool b]) ∧ Below w.heap.size w w' := by
  have HC := hid (fun w1 (h1 : Laid w1) => find_any h1 h)
  have ⟨b0, b1⟩ := mon_lt h.1 h.2
  have ⟨d0, d1⟩ := mon_day h.1
  have hD' := toD_at (d := d) (k := mon d + n) _ rfl
  rw [hD] at hD'
  have bk := st_bd (k := mon d) b0 (by omega)
  have bm := ml_bd (mon d)
  have bD := toD_bd h.1 (mon d + n)
  rw [hD] at bD
  obtain ⟨k, hk⟩ : ∃ k, mon d = k := ⟨_, rfl⟩
  rw [hk] at HC b0 b1 hn hD' d0 d1 bk bm bD
  obtain ⟨n0, n1⟩ := hn
  have bt := st_bd (k := k + n) n0 (by omega)
  have bu := ml_bd (k + n)
  have HM : Hid (lenM (yr (k + n)) (mo (k + n)) = ml (k + n)) := rfl
  have HI : Hid (∀ w1, Calls Tryd.prog 38 #[.int .i64 D] w1 fun e w' => e = .returned (.bool b) ∧ w' = w1) := by
    intro w1
    have : 0 ≤ D := by omega
    cases b
    · exact isd_no _ (fun g => by simp at hb; have := g.2; omega)
    · exact isd_yes _ ⟨this, by simpa using hb⟩
  have HL := hid hL
  obtain ⟨S, hS⟩ : ∃ S, st k = S := ⟨_, rfl⟩
  obtain ⟨T, hT⟩ : ∃ T, st (k + n) = T := ⟨_, rfl⟩
  obtain ⟨m, hm⟩ : ∃ m, ml (k + n) = m := ⟨_, rfl⟩
  rw [hS] at hD' d0 d1 bk
  rw [hT] at hD' bt
  rw [hm] at hD' bu HM
  have HS := hid hS
  have HT := hid hT
  obtain ⟨bk0, bk1⟩ := bk
  obtain ⟨bt0, bt1⟩ := bt
  obtain ⟨bu0, bu1⟩ := bu
  have d2 : d ≤ 65535 := by have := h.2; omega
  have g1 : ¬ n < -k := by omega
  have g2 : n < 2154 - k := by omega
  have e1 : IntKind.i64.wrap (k + n) = k + n := IntWalk.i64_in _ (by omega)
  by_cases hc : d - S ≤ m - 1
  all_goals
    first | rw [if_pos hc] at hD' | rw [if_neg hc] at hD'
    subst hD'
    clear hL hk h hD hb hS hT hm bm bD
    go_enter Tryd.func51, Tryd.ntmps51
    go_wp2_with (first
      | (go_at_call 48; refine (HC.out _ HL.out).mono ?_; rintro e w1 ⟨rfl, hb⟩; have HL1 := hid (HL.out.below hb))
      | (go_at_call 36; refine (start_any _ HL1.out (by omega) (by omega)).mono ?_; rintro e w' ⟨rfl, rfl⟩; first | rw [HT.out] | rw [HS.out])
      | (go_at_call 49; refine (yam_any _ _ (by omega) (by omega)).mono ?_; rintro e w' ⟨rfl, rfl⟩)
      | (go_at_call 19; refine (len_any _ _ HL1.out).mono ?_; rintro e w' ⟨rfl, rfl⟩; rw [HM.out])
      | (go_at_call 38; refine (HI.out _).mono ?_; rintro e w' ⟨rfl, rfl⟩)
      | fail)
    go_ret2
    exact ⟨rfl, hb⟩

set_option maxRecDepth 100000 in
set_option maxHeartbeats 2000000 in
theorem whole_any {a b : Int} {w : World} (hL : Laid w) (ha : IsD a) (hb : IsD b) (_hab : a ≤ b) :
    Calls Tryd.prog 52 #[.int .i64 a, .int .i64 b] w fun e w' => e = .returned (.int .i64 (whole a b)) ∧ Below w.heap.size w w' := by
  have HA := hid (fun w1 (h1 : Laid w1) => find_any h1 ha)
  have HB := hid (fun w1 (h1 : Laid w1) => find_any h1 hb)
  have ⟨a0, a1⟩ := mon_lt ha.1 ha.2
  have ⟨b0, b1⟩ := mon_lt hb.1 hb.2
  have HL := hid hL
  obtain ⟨D, hD⟩ : ∃ D, toD a (mon b) = D := ⟨_, rfl⟩
  have e : mon a + (mon b - mon a) = mon b := by omega
  have HW : Hid (whole a b = if D ≤ b then mon b - mon a else mon b - mon a - 1) := by show _ = _; rw [← hD]; rfl
  have HT := hid (fun w1 (h1 : Laid w1) => later_yes (d := a) (n := mon b - mon a) (D := D) (b := decide (D < 65536)) h1 ha (by rw [e]; exact ⟨b0, b1⟩) (by rw [e]; exact hD) rfl)
  have hb2 := hb.2
  obtain ⟨j, hj⟩ : ∃ j, mon a = j := ⟨_, rfl⟩
  obtain ⟨k, hk⟩ : ∃ k, mon b = k := ⟨_, rfl⟩
  rw [hj, hk] at HT HW
  rw [hj] at HA a0 a1
  rw [hk] at HB b0 b1
  clear hL ha hb hD e hj hk
  by_cases hc : D ≤ b
  · have hx : D < 65536 := by omega
    rw [HW.out, if_pos hc]
    rw [decide_eq_true hx] at HT
    clear hx
    go_enter Tryd.func52, Tryd.ntmps52
    go_wp2_with fail
    refine (HB.out _ HL.out).mono ?_
    rintro e w1 ⟨rfl, h1⟩
    go_wp2_with fail
    refine (HA.out _ (HL.out.below h1)).mono ?_
    rintro e w2 ⟨rfl, h2⟩
    replace h1 := h1.trans (h2.mono h1.size)
    clear h2
    go_wp2_with fail
    refine (HT.out _ (HL.out.below h1)).mono ?_
    rintro e w3 ⟨rfl, h2⟩
    replace h1 := h1.trans (h2.mono h1.size)
    clear h2
    go_wp2_with fail
    go_ret
    exact ⟨rfl, h1⟩
  · rw [HW.out, if_neg hc]
    by_cases hx : D < 65536
    all_goals
      first | rw [decide_eq_true hx] at HT | rw [decide_eq_false hx] at HT
      clear hx
      go_enter Tryd.func52, Tryd.ntmps52
      go_wp2_with fail
      refine (HB.out _ HL.out).mono ?_
      rintro e w1 ⟨rfl, h1⟩
      go_wp2_with fail
      refine (HA.out _ (HL.out.below h1)).mono ?_
      rintro e w2 ⟨rfl, h2⟩
      replace h1 := h1.trans (h2.mono h1.size)
      clear h2
      go_wp2_with fail
      refine (HT.out _ (HL.out.below h1)).mono ?_
      rintro e w3 ⟨rfl, h2⟩
      replace h1 := h1.trans (h2.mono h1.size)
      clear h2
      go_wp2_with fail
      go_ret
      exact ⟨rfl, h1⟩
end Go.Proofs.YtmpkjooglpomoaaDoor
