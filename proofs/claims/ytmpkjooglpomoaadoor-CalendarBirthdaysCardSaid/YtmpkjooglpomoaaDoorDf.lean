/- Birthdays: CalendarBirthdays' function returns true. -/
import Derived.Test.YtmpkjooglpomoaaDoorDe
namespace Go.Proofs.YtmpkjooglpomoaaDoor
open Go.RowKit Go.Lib

theorem birth_facts {a k : Int} (ha : IsD a) (hk : 1 ≤ k) (ok : AddOk a (12 * k)) :
    IsD (addV a (12 * k)) ∧ a < addV a (12 * k) ∧ ageV a (addV a (12 * k)) = k ∧ ageE a (addV a (12 * k)) = 0 ∧ ageV a (addV a (12 * k) - 1) = k - 1 ∧ ageE a (addV a (12 * k) - 1) = 0 ∧
    ageV a a = 0 ∧ ageE a a = 0 ∧ ageV (addV a (12 * k)) a = 0 ∧ ageE (addV a (12 * k)) a = 2 := by
  have ⟨x1, x2⟩ := addV_ok ha ok.1 ok.2
  rw [x1]
  have hD := ok.2
  have l1 := toD_lt ha.1 (j := mon a) (k := mon a + 12 * k) (by omega)
  rw [toD_self ha.1] at l1
  have l2 := toD_lt ha.1 (j := mon a + 12 * k) (k := mon a + 12 * k + 1) (by omega)
  have l3 := toD_lt ha.1 (j := mon a + (12 * k - 1)) (k := mon a + 12 * k) (by omega)
  have l4 := toD_lt ha.1 (j := mon a) (k := mon a + 1) (by omega)
  rw [toD_self ha.1] at l4
  have h0 := ha.1
  have h1 := ha.2
  generalize hd : toD a (mon a + 12 * k) = d at *
  have w1 : whole a d = 12 * k := whole_uniq h0 (by omega) (by omega) (by omega)
  have w2 : whole a (d - 1) = 12 * k - 1 := whole_uniq h0 (by omega) (by omega) (by rw [show mon a + (12 * k - 1) + 1 = mon a + 12 * k by omega]; omega)
  have w3 : whole a a = 0 := whole_uniq h0 (Int.le_refl a) (by rw [Int.add_zero, toD_self h0]; omega) (by rw [Int.add_zero]; omega)
  have dD : IsD d := ⟨by omega, by omega⟩
  have a1 := age_in ha dD (by omega)
  have a2 := age_in (a := a) (b := d - 1) ha ⟨by omega, by omega⟩ (by omega)
  have a3 := age_in ha ha (Int.le_refl a)
  have a4 := age_out (a := d) (b := a) (fun g => by have := g.2.2; omega)
  rw [w1] at a1; rw [w2] at a2; rw [w3] at a3
  exact ⟨dD, l1, by rw [a1.1]; omega, a1.2, by rw [a2.1]; omega, a2.2, by rw [a3.1]; rfl, a3.2, a4.1, a4.2⟩

set_option maxRecDepth 100000 in
set_option maxHeartbeats 20000000 in
theorem birth_law (x n : Int) {w : World} (hL : Laid w) (n0 : 0 ≤ n) (n1 : n ≤ 255) :
    Calls Tryd.prog 12 #[.int .i64 x, .int .u8 n] w fun e w' => e = .returned (.bool true) ∧ Below w.heap.size w w' := by
  have HL := hid hL
  clear hL
  have P1 := hid (fun w1 => pick_any x 65536 w1 (by omega) (by omega))
  have ⟨x0, x1⟩ := pick_bd x (n := 65536) (by omega)
  generalize x % 65536 = a at *
  have ha : IsD a := ⟨x0, x1⟩
  have k0 : 0 ≤ n % 179 ∧ n % 179 ≤ 178 := by omega
  obtain ⟨k00, k01⟩ := k0
  have H1 := hid (fun w1 (h1 : Laid w1) => add_any a (12 * (1 + n % 179)) h1)
  by_cases ok : AddOk a (12 * (1 + n % 179))
  · have ⟨f1, f2, f3, f4, f5, f6, f7, f8, f9, f10⟩ := birth_facts (k := 1 + n % 179) ha (by omega) ok
    have fe := (addV_ok ha ok.1 ok.2).2
    have H2 := hid (fun w1 (h1 : Laid w1) => age_any a (addV a (12 * (1 + n % 179))) h1)
    have H3 := hid (fun w1 (h1 : Laid w1) => age_any a (addV a (12 * (1 + n % 179)) - 1) h1)
    have H4 := hid (fun w1 (h1 : Laid w1) => age_any a a h1)
    have H5 := hid (fun w1 (h1 : Laid w1) => age_any (addV a (12 * (1 + n % 179))) a h1)
    rw [fe] at H1
    rw [f3, f4] at H2
    rw [f5, f6] at H3
    rw [f7, f8] at H4
    rw [f9, f10] at H5
    obtain ⟨d0, d1⟩ := f1
    generalize addV a (12 * (1 + n % 179)) = d at *
    clear f3 f4 f5 f6 f7 f8 f9 f10 ok fe ha
    go_enter Tryd.func12, Tryd.ntmps12
    go_wp2_with fail
    refine (awake_any HL.out).mono ?_
    rintro e u1 ⟨rfl, h1⟩
    go_wp2_with fail
    refine (P1.out _).mono ?_
    rintro e u ⟨rfl, rfl⟩
    go_wp2_with fail
    refine (H1.out _ (HL.out.below h1)).mono ?_
    rintro e u ⟨rfl, hx⟩; replace h1 := h1.trans (hx.mono h1.size); clear hx
    go_wp2_with fail
    refine (H2.out _ (HL.out.below h1)).mono ?_
    rintro e u ⟨rfl, hx⟩; replace h1 := h1.trans (hx.mono h1.size); clear hx
    go_wp2_with fail
    refine (H3.out _ (HL.out.below h1)).mono ?_
    rintro e u ⟨rfl, hx⟩; replace h1 := h1.trans (hx.mono h1.size); clear hx
    go_wp2_with fail
    refine (H4.out _ (HL.out.below h1)).mono ?_
    rintro e u ⟨rfl, hx⟩; replace h1 := h1.trans (hx.mono h1.size); clear hx
    go_wp2_with fail
    refine (H5.out _ (HL.out.below h1)).mono ?_
    rintro e u ⟨rfl, hx⟩; replace h1 := h1.trans (hx.mono h1.size); clear hx
    go_wp2_with fail
    go_ret
    exact ⟨rfl, h1⟩
  · have ⟨e1, e2⟩ := addV_no ha ok
    rw [e1, e2] at H1
    clear e1 e2 ok ha
    go_enter Tryd.func12, Tryd.ntmps12
    go_wp2_with fail
    refine (awake_any HL.out).mono ?_
    rintro e u1 ⟨rfl, h1⟩
    go_wp2_with fail
    refine (P1.out _).mono ?_
    rintro e u ⟨rfl, rfl⟩
    go_wp2_with fail
    refine (H1.out _ (HL.out.below h1)).mono ?_
    rintro e u ⟨rfl, hx⟩; replace h1 := h1.trans (hx.mono h1.size); clear hx
    go_wp2_with fail
    go_ret
    exact ⟨rfl, h1⟩
end Go.Proofs.YtmpkjooglpomoaaDoor
