/- Contracts: the numbers of months, the first days of months. -/
import Derived.Test.YtmpkjooglpomoaaDoorCa
namespace Go.Proofs.YtmpkjooglpomoaaDoor
open Go.RowKit Go.Lib

set_option maxRecDepth 100000 in
set_option maxHeartbeats 400000 in
theorem rlen_any (y m : Int) (w : World) : Calls Tryd.prog 20 #[.int .i64 y, .int .i64 m] w fun e w' => e = .returned (.int .i64 (lenM y m)) ∧ w' = w := by
  by_cases h : m < 1 ∨ 12 < m
  · rw [lenM_out y m h]
    have n1 : m ≠ 1 := by omega
    have n2 : m ≠ 2 := by omega
    have n3 : m ≠ 3 := by omega
    have n4 : m ≠ 4 := by omega
    have n5 : m ≠ 5 := by omega
    have n6 : m ≠ 6 := by omega
    have n7 : m ≠ 7 := by omega
    have n8 : m ≠ 8 := by omega
    have n9 : m ≠ 9 := by omega
    have n10 : m ≠ 10 := by omega
    have n11 : m ≠ 11 := by omega
    have n12 : m ≠ 12 := by omega
    clear h
    go_enter Tryd.func20, Tryd.ntmps20
    go_wp2
    go_ret
    exact ⟨rfl, rfl⟩
  · rcases (by omega : m = 2 ∨ m = 1 ∨ m = 3 ∨ m = 4 ∨ m = 5 ∨ m = 6 ∨ m = 7 ∨ m = 8 ∨ m = 9 ∨ m = 10 ∨ m = 11 ∨ m = 12) with h | h
    · subst h
      rw [lenM_2]
      cases hb : leapB y
      · have e : leapI y = 0 := by unfold leapI; rw [if_neg (by simp [hb])]
        rw [e]
        have HB := hid hb
        clear hb h e
        go_enter Tryd.func20, Tryd.ntmps20
        go_wp2_with (go_at_call 18; refine (rleap_any _ _).mono ?_; rintro e w' ⟨rfl, rfl⟩; rw [HB.out])
        go_ret
        exact ⟨rfl, rfl⟩
      · have e : leapI y = 1 := by unfold leapI; rw [if_pos hb]
        rw [e]
        have HB := hid hb
        clear hb h e
        go_enter Tryd.func20, Tryd.ntmps20
        go_wp2_with (go_at_call 18; refine (rleap_any _ _).mono ?_; rintro e w' ⟨rfl, rfl⟩; rw [HB.out])
        go_ret
        exact ⟨rfl, rfl⟩
    · rcases h with h | h | h | h | h | h | h | h | h | h | h <;> subst h <;> rw [lenM_at (by omega) (by omega) (by omega)] <;>
      (go_enter Tryd.func20, Tryd.ntmps20
       go_wp2
       go_ret
       exact ⟨ret_int (by decide), rfl⟩)

set_option maxRecDepth 100000 in
set_option maxHeartbeats 400000 in
theorem yam_any (k : Int) (w : World) (h0 : 0 ≤ k) (h1 : k ≤ 100000) : Calls Tryd.prog 49 #[.int .i64 k] w fun e w' => e = .returned (.tuple #[.int .i64 (yr k), .int .i64 (mo k)]) ∧ w' = w := by
  go_enter Tryd.func49, Tryd.ntmps49
  go_wp2
  go_ret2
  exact ⟨rfl, rfl⟩
set_option maxRecDepth 100000 in
set_option maxHeartbeats 400000 in
theorem lp_any (y : Int) (w : World) (h0 : 1 ≤ y) (h1 : y ≤ 100000) : Calls Tryd.prog 54 #[.int .i64 y] w fun e w' => e = .returned (.int .i64 (lp y)) ∧ w' = w := by
  go_enter Tryd.func54, Tryd.ntmps54
  go_wp2
  go_ret
  exact ⟨rfl, rfl⟩
set_option maxRecDepth 100000 in
set_option maxHeartbeats 400000 in
theorem isd_yes {d : Int} (w : World) (h : IsD d) : Calls Tryd.prog 38 #[.int .i64 d] w fun e w' => e = .returned (.bool true) ∧ w' = w := by
  obtain ⟨h0, h1⟩ := h
  go_enter Tryd.func38, Tryd.ntmps38
  go_wp2
  go_ret
  exact ⟨ret_bool (by simp), rfl⟩
set_option maxRecDepth 100000 in
set_option maxHeartbeats 400000 in
theorem isd_no {d : Int} (w : World) (h : ¬ IsD d) : Calls Tryd.prog 38 #[.int .i64 d] w fun e w' => e = .returned (.bool false) ∧ w' = w := by
  by_cases h0 : 0 ≤ d
  · have h1 : ¬ d < 65536 := fun g => h ⟨h0, g⟩
    clear h
    go_enter Tryd.func38, Tryd.ntmps38
    go_wp2
    go_ret
    exact ⟨ret_bool (by simp), rfl⟩
  · clear h
    go_enter Tryd.func38, Tryd.ntmps38
    go_wp2
    go_ret
    exact ⟨ret_bool (by simp), rfl⟩
set_option maxRecDepth 100000 in
set_option maxHeartbeats 400000 in
theorem is_yes {d : Int} (w : World) (h : IsD d) : Calls Tryd.prog 55 #[.int .i64 d] w fun e w' => e = .returned (.bool true) ∧ w' = w := by
  obtain ⟨h0, h1⟩ := h
  go_enter Tryd.func55, Tryd.ntmps55
  go_wp2
  go_ret
  exact ⟨ret_bool (by simp), rfl⟩
set_option maxRecDepth 100000 in
set_option maxHeartbeats 400000 in
theorem is_no {d : Int} (w : World) (h : ¬ IsD d) : Calls Tryd.prog 55 #[.int .i64 d] w fun e w' => e = .returned (.bool false) ∧ w' = w := by
  by_cases h0 : 0 ≤ d
  · have h1 : ¬ d < 65536 := fun g => h ⟨h0, g⟩
    clear h
    go_enter Tryd.func55, Tryd.ntmps55
    go_wp2
    go_ret
    exact ⟨ret_bool (by simp), rfl⟩
  · clear h
    go_enter Tryd.func55, Tryd.ntmps55
    go_wp2
    go_ret
    exact ⟨ret_bool (by simp), rfl⟩
set_option maxRecDepth 100000 in
set_option maxHeartbeats 400000 in
theorem ism_yes {d : Int} (w : World) (h : IsM d) : Calls Tryd.prog 50 #[.int .i64 d] w fun e w' => e = .returned (.bool true) ∧ w' = w := by
  obtain ⟨h0, h1⟩ := h
  go_enter Tryd.func50, Tryd.ntmps50
  go_wp2
  go_ret
  exact ⟨ret_bool (by simp), rfl⟩
set_option maxRecDepth 100000 in
set_option maxHeartbeats 400000 in
theorem ism_no {d : Int} (w : World) (h : ¬ IsM d) : Calls Tryd.prog 50 #[.int .i64 d] w fun e w' => e = .returned (.bool false) ∧ w' = w := by
  by_cases h0 : 0 ≤ d
  · have h1 : ¬ d < 2154 := fun g => h ⟨h0, g⟩
    clear h
    go_enter Tryd.func50, Tryd.ntmps50
    go_wp2
    go_ret
    exact ⟨ret_bool (by simp), rfl⟩
  · clear h
    go_enter Tryd.func50, Tryd.ntmps50
    go_wp2
    go_ret
    exact ⟨ret_bool (by simp), rfl⟩
set_option maxRecDepth 100000 in
set_option maxHeartbeats 400000 in
theorem monthOf_any (y m : Int) (w : World) (h0 : 1900 ≤ y) (h1 : y ≤ 3000) (h2 : 0 ≤ m) (h3 : m ≤ 100) :
    Calls Tryd.prog 37 #[.int .i64 y, .int .i64 m] w fun e w' => e = .returned (.int .i64 (12 * (y - 1900) + m - 1)) ∧ w' = w := by
  go_enter Tryd.func37, Tryd.ntmps37
  go_wp2
  go_ret
  exact ⟨ret_int (by omega), rfl⟩

set_option maxRecDepth 100000 in
set_option maxHeartbeats 400000 in
theorem start_any (k : Int) {w : World} (hL : Laid w) (h0 : 0 ≤ k) (h1 : k ≤ 4400) : Calls Tryd.prog 36 #[.int .i64 k] w fun e w' => e = .returned (.int .i64 (st k)) ∧ w' = w := by
  obtain ⟨y, hy⟩ : ∃ y, yr k = y := ⟨_, rfl⟩
  obtain ⟨n, hn⟩ : ∃ n, mo k = n := ⟨_, rfl⟩
  have HS : Hid (st k = yd y + cum y n) := by show _ = _; rw [st_yc, hy, hn]
  have by1 : 1900 ≤ y ∧ y ≤ 2300 := by rw [← hy]; unfold yr; omega
  have bn := mo_bd k
  rw [hn] at bn
  obtain ⟨y1, y2⟩ := by1
  obtain ⟨n1, n2⟩ := bn
  have l0 : Hid (lp 1900 = 460) := by show lp 1900 = 460; decide
  obtain ⟨P, hP⟩ : ∃ P, lp y = P := ⟨_, rfl⟩
  have bP : 460 ≤ P ∧ P ≤ 600 := by rw [← hP]; unfold lp; omega
  obtain ⟨p1, p2⟩ := bP
  have HP := hid hP
  have HY : Hid (yr k = y ∧ mo k = n) := ⟨hy, hn⟩
  have HD : Hid (yd y = 365 * (y - 1900) + P - 460) := by show _ = _; rw [← hP]; rfl
  clear hy hn hP
  go_enter Tryd.func36, Tryd.ntmps36
  go_wp2_with (first
    | (go_at_call 49; refine (yam_any _ _ (by omega) (by omega)).mono ?_; rintro e w' ⟨rfl, rfl⟩; rw [HY.out.1, HY.out.2])
    | (go_at_call 54; refine (lp_any _ _ (by omega) (by omega)).mono ?_; rintro e w' ⟨rfl, rfl⟩; first | rw [l0.out] | rw [HP.out]))
  go_loop [5, 6] (fun d i => ∃ m : Int, 1 ≤ m ∧ m ≤ n ∧ i = .int .i64 m ∧ d = .int .i64 (yd y + cum y m)) (fun _ i => (12 - intOf i).toNat)
  case atStart => exact ⟨1, by omega, by omega, rfl, by rw [cum_1, HD.out]; congr 1; omega⟩
  case round =>
    obtain ⟨m, hm1, hm2, rfl, rfl⟩ := hrel
    by_cases hlt : m < n
    · have b1 := cum_bd y m hm1 (by omega)
      have b2 := yd_bd y1 y2
      have b3 := lenM_bd y m hm1 (by omega)
      obtain ⟨Y, hY⟩ : ∃ Y, yd y + cum y m = Y := ⟨_, rfl⟩
      have HC : Hid (yd y + cum y (m + 1) = Y + lenM y m) := by show _ = _; rw [cum_succ y m hm1 (by omega)]; omega
      have bY : 0 ≤ Y ∧ Y ≤ 200000 := by omega
      obtain ⟨bY0, bY1⟩ := bY
      rw [hY]
      clear hY b1 b2
      go_wp2_with (go_at_call 19; refine (len_any _ _ hL).mono ?_; rintro e w' ⟨rfl, rfl⟩)
      go_round
      case rel => exact ⟨m + 1, by omega, by omega, rfl, by rw [HC.out]⟩
      case measure => simp [intOf]; omega
    · obtain rfl : m = n := by omega
      go_wp2
      go_ret
      exact ⟨ret_int HS.out.symm, rfl⟩
end Go.Proofs.YtmpkjooglpomoaaDoor
