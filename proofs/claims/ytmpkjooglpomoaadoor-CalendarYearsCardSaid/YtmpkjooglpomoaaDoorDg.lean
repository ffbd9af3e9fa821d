/- Leap years: CalendarYears' function returns true. -/
import Derived.Test.YtmpkjooglpomoaaDoorDc
namespace Go.Proofs.YtmpkjooglpomoaaDoor
open Go.RowKit Go.Lib

theorem cum_14 (y : Int) : cum y 14 = 365 + leapI y := by simp [cum]; omega
theorem cum_le1 (y m : Int) (h : m ≤ 1) : cum y m = 0 := by unfold cum; rw [if_pos h]
theorem cum_step (y m : Int) (h0 : 0 ≤ m) (h : m ≤ 13) : cum y (m + 1) = cum y m + lenM y m := by
  rcases (by omega : m = 0 ∨ m = 13 ∨ (1 ≤ m ∧ m ≤ 12)) with e | e | ⟨e1, e2⟩
  · subst e; rw [lenM_out y 0 (by omega), cum_le1 y 0 (by omega), show (0 : Int) + 1 = 1 from rfl, cum_1]; rfl
  · subst e; rw [lenM_out y 13 (by omega), show (13 : Int) + 1 = 14 from rfl, cum_14, cum_13]; omega
  · exact cum_succ y m e1 e2

set_option maxRecDepth 100000 in
set_option maxHeartbeats 20000000 in
theorem years_law (x : Int) {w : World} (hL : Laid w) :
    Calls Tryd.prog 9 #[.int .i64 x] w fun e w' => e = .returned (.bool true) ∧ Below w.heap.size w w' := by
  have HL := hid hL
  clear hL
  have P1 := hid (fun w1 => pick_any x 200001 w1 (by omega) (by omega))
  have ⟨x0, x1⟩ := pick_bd x (n := 200001) (by omega)
  generalize x % 200001 = z at *
  obtain ⟨f, hf⟩ : ∃ f, z - 100000 = f := ⟨_, rfl⟩
  have f0 : -100000 ≤ f := by omega
  have f1 : f ≤ 100000 := by omega
  have HF := hid hf
  clear hf
  go_enter Tryd.func9, Tryd.ntmps9
  go_wp2_with fail
  refine (awake_any HL.out).mono ?_
  rintro e u1 ⟨rfl, h1⟩
  have HL1 := hid (HL.out.below h1)
  go_wp2_with fail
  refine (P1.out _).mono ?_
  rintro e u ⟨rfl, rfl⟩
  go_wp2_with fail
  rw [HF.out]
  clear HF x0 x1 P1
  go_loop [3, 4] (fun l y => ∃ k : Int, f ≤ k ∧ k ≤ f + 400 ∧ y = .int .i64 k ∧ l = .int .i64 (lp k - lp f)) (fun _ y => (f + 400 - intOf y).toNat)
  case atStart => exact ⟨f, by omega, by omega, rfl, by rw [Int.sub_self]⟩
  case round =>
    obtain ⟨k, k0, k1, rfl, rfl⟩ := hrel
    have bl : 0 ≤ lp k - lp f ∧ lp k - lp f ≤ 400 := by unfold lp; omega
    by_cases hlt : k < f + 400
    · have hs := lp_succ k
      have hq := leap_400 k
      have h14 := cum_14 k
      obtain ⟨l, hl⟩ : ∃ l, lp k - lp f = l := ⟨_, rfl⟩
      rw [hl] at bl
      obtain ⟨l0, l1⟩ := bl
      have HB : Hid ((leapB k = true ∧ lp (k + 1) - lp f = l + 1 ∧ cum k 14 = 366 ∧ k.tmod 4 = 0) ∨ (leapB k = false ∧ lp (k + 1) - lp f = l ∧ cum k 14 = 365)) := by
        cases hb : leapB k
        · have e : leapI k = 0 := by unfold leapI; rw [if_neg (by simp [hb])]
          exact Or.inr ⟨rfl, by rw [hs, e]; omega, by rw [h14, e]; rfl⟩
        · have e : leapI k = 1 := by unfold leapI; rw [if_pos hb]
          exact Or.inl ⟨rfl, by rw [hs, e]; omega, by rw [h14, e]; rfl, (tmod_z k 4).2 (leap_4 hb)⟩
      have HQ := hid hq
      rw [hl]
      clear hs hq h14 hl
      go_wp2_with fail
      go_loop [5, 6] (fun d i => ∃ m : Int, 0 ≤ m ∧ m ≤ 14 ∧ i = .int .i64 m ∧ d = .int .i64 (cum k m)) (fun _ i => (14 - intOf i).toNat)
      case atStart => exact ⟨0, by omega, by omega, rfl, by rw [cum_le1 k 0 (by omega)]⟩
      case round =>
        obtain ⟨m, m0, m1, rfl, rfl⟩ := hrel
        by_cases hm : m < 14
        · have hc := cum_step k m m0 (by omega)
          have b1 : 0 ≤ cum k m ∧ cum k m ≤ 500 := by
            by_cases g : m ≤ 1
            · rw [cum_le1 k m g]; omega
            · have := cum_bd k m (by omega) (by omega); omega
          have b2 := lenM_nn k m
          obtain ⟨C, hC⟩ : ∃ C, cum k m = C := ⟨_, rfl⟩
          rw [hC] at hc b1
          obtain ⟨b10, b11⟩ := b1
          have HC := hid hc
          rw [hC]
          clear hc hC
          go_wp2_with fail
          refine (len_any _ _ HL1.out).mono ?_
          rintro e w' ⟨rfl, rfl⟩
          go_wp2_with fail
          go_round
          case rel => exact ⟨m + 1, by omega, by omega, rfl, by rw [HC.out]⟩
          case measure => simp [intOf]; omega
        · obtain rfl : m = 14 := by omega
          rcases HB.out with ⟨q1, q2, q3, q4⟩ | ⟨q1, q2, q3⟩
          · rw [q3]
            have Q1 := hid q1
            have Q2 := hid q2
            clear q1 q2 q3 HB
            go_wp2_with (go_at_call 17; refine (leap_any _ _).mono ?_; rintro e w' ⟨rfl, rfl⟩; first | rw [Q1.out] | rw [HQ.out, Q1.out])
            go_round
            case rel => exact ⟨k + 1, by omega, by omega, rfl, by rw [Q2.out]⟩
            case measure => simp [intOf]; omega
          · rw [q3]
            have Q1 := hid q1
            have Q2 := hid q2
            clear q1 q2 q3 HB
            go_wp2_with (go_at_call 17; refine (leap_any _ _).mono ?_; rintro e w' ⟨rfl, rfl⟩; first | rw [Q1.out] | rw [HQ.out, Q1.out])
            go_round
            case rel => exact ⟨k + 1, by omega, by omega, rfl, by rw [Q2.out]⟩
            case measure => simp [intOf]; omega
    · obtain rfl : k = f + 400 := by omega
      have e := lp_400 f
      rw [e]
      clear bl e
      go_wp2
      go_ret
      exact ⟨rfl, h1⟩
end Go.Proofs.YtmpkjooglpomoaaDoor
