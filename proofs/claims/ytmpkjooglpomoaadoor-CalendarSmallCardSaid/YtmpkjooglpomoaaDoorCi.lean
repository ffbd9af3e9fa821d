/- The reference's functions about numbers, continued. -/
import Derived.Test.YtmpkjooglpomoaaDoorCh
namespace Go.Proofs.YtmpkjooglpomoaaDoor
open Go.RowKit Go.Lib

set_option maxRecDepth 100000 in
set_option maxHeartbeats 2000000 in
theorem rmonth_any (d : Int) (w : World) :
    Calls Tryd.prog 40 #[.int .i64 d] w fun e w' => e = .returned (.tuple #[.int .i64 (monV d), .int .i64 (errD d)]) ∧ w' = w := by
  have HC := hid (rymd_any d w)
  by_cases h : IsD d
  · have ⟨e1, e2, e3, e4, e5, _⟩ := ymd_in h
    rw [e1, e2, e3, e4] at HC
    rw [e4, e5]
    have ⟨b0, b1⟩ := mon_lt h.1 h.2
    have hy := yr_bd b0 b1
    have hm := mo_bd (mon d)
    have he := yrmo (mon d)
    generalize d - st (mon d) + 1 = D at *
    generalize mon d = k at *
    obtain ⟨Y, hY⟩ : ∃ Y, yr k = Y := ⟨_, rfl⟩
    obtain ⟨M, hM⟩ : ∃ M, mo k = M := ⟨_, rfl⟩
    rw [hY, hM] at he HC
    rw [hY] at hy
    rw [hM] at hm
    obtain ⟨hy1, hy2⟩ := hy
    obtain ⟨hm1, hm2⟩ := hm
    subst he
    clear e1 e2 e3 e4 e5 h hY hM b0 b1
    go_enter Tryd.func40, Tryd.ntmps40
    go_wp2_with (go_at_call 39; refine HC.out.mono ?_; rintro e w' ⟨rfl, rfl⟩)
    go_ret2
    exact ⟨rfl, rfl⟩
  · have ⟨e1, e2, e3, e4, e5, _⟩ := ymd_out h
    rw [e1, e2, e3, e4] at HC
    rw [e4, e5]
    clear e1 e2 e3 e4 e5 h
    go_enter Tryd.func40, Tryd.ntmps40
    go_wp2_with (go_at_call 39; refine HC.out.mono ?_; rintro e w' ⟨rfl, rfl⟩)
    go_ret2
    exact ⟨rfl, rfl⟩

set_option maxRecDepth 100000 in
set_option maxHeartbeats 2000000 in
theorem rweekday_any (d : Int) (w : World) :
    Calls Tryd.prog 41 #[.int .i64 d] w fun e w' => e = .returned (.tuple #[.int .i64 (wkV d), .int .i64 (errD d)]) ∧ w' = w := by
  by_cases h : IsD d
  · have ⟨_, _, _, e4, _, e5⟩ := ymd_in h
    rw [e4, e5]
    have HD := hid h
    obtain ⟨h0, h1⟩ := h
    clear e4 e5
    go_enter Tryd.func41, Tryd.ntmps41
    go_wp2_with (go_at_call 55; refine (is_yes _ HD.out).mono ?_; rintro e w' ⟨rfl, rfl⟩)
    go_ret2
    exact ⟨rfl, rfl⟩
  · have ⟨_, _, _, e4, _, e5⟩ := ymd_out h
    rw [e4, e5]
    have HD := hid h
    clear e4 e5 h
    go_enter Tryd.func41, Tryd.ntmps41
    go_wp2_with (go_at_call 55; refine (is_no _ HD.out).mono ?_; rintro e w' ⟨rfl, rfl⟩)
    go_ret2
    exact ⟨rfl, rfl⟩

theorem day_first {k : Int} (h : IsM k) : dayV (1900 + k / 12) (k % 12 + 1) 1 = st k := by
  obtain ⟨h0, h1⟩ := h
  have hy := yr_bd h0 h1
  have hm := mo_bd k
  have b := lenM_bd (yr k) (mo k) hm.1 hm.2
  have hs := st_yc k
  have hk := st_lt (j := k) (k := 2153) (by omega)
  rw [st_end] at hk
  have ok : DayOk (yr k) (mo k) 1 := ⟨hy.1, hy.2, by omega, by omega, by omega⟩
  show dayV (yr k) (mo k) 1 = _
  rw [(day_in ok).1]; omega

set_option maxRecDepth 100000 in
set_option maxHeartbeats 2000000 in
theorem rfirst_any (k : Int) (w : World) :
    Calls Tryd.prog 26 #[.int .i64 k] w fun e w' => e = .returned (.tuple #[.int .i64 (fstV k), .int .i64 (fstE k)]) ∧ w' = w := by
  by_cases h : IsM k
  · have ⟨e4, e5⟩ := fst_in h
    rw [e4, e5]
    have HC := hid (rday_any (1900 + k / 12) (k % 12 + 1) 1 w)
    rw [day_first h] at HC
    obtain ⟨h0, h1⟩ := h
    generalize st k = S at *
    generalize dayE (1900 + k / 12) (k % 12 + 1) 1 = E at *
    have g1 : ¬ k < 0 := by omega
    have g2 : ¬ 2153 < k := by omega
    clear e4 e5
    go_enter Tryd.func26, Tryd.ntmps26
    go_wp2_with (go_at_call 16; refine HC.out.mono ?_; rintro e w' ⟨rfl, rfl⟩)
    go_ret2
    exact ⟨rfl, rfl⟩
  · have ⟨e4, e5⟩ := fst_out h
    rw [e4, e5]
    clear e4 e5
    by_cases h1 : k < 0
    · clear h
      go_enter Tryd.func26, Tryd.ntmps26
      go_wp2_with fail
      go_ret2
      exact ⟨rfl, rfl⟩
    · have h2 : 2153 < k := by
        by_cases g : k < 2154
        · exact absurd ⟨by omega, g⟩ h
        · omega
      clear h
      go_enter Tryd.func26, Tryd.ntmps26
      go_wp2_with fail
      go_ret2
      exact ⟨rfl, rfl⟩

/-- What the reference's Add asks of Day. -/
theorem radd_day {d n : Int} (h : IsD d) (h0 : 0 ≤ mon d + n) {r : Int} (hr : r = if d - st (mon d) + 1 ≤ ml (mon d + n) then d - st (mon d) + 1 else ml (mon d + n)) :
    (dayE (yr (mon d + n)) (mo (mon d + n)) r = 0 ∧ addE d n = 0 ∧ dayV (yr (mon d + n)) (mo (mon d + n)) r = addV d n) ∨ (dayE (yr (mon d + n)) (mo (mon d + n)) r = 2 ∧ addE d n = 30 ∧ addV d n = 0) := by
  have hd := mon_day h.1
  have hm := mo_bd (mon d + n)
  have hb := ml_bd (mon d + n)
  have hs := st_yc (mon d + n)
  have ht : toD d (mon d + n) = st (mon d + n) + r - 1 := by rw [hr]; unfold toD; split <;> split <;> omega
  have r1 : 1 ≤ r ∧ r ≤ lenM (yr (mon d + n)) (mo (mon d + n)) := by
    rw [hr]; show _ ∧ _ ≤ ml (mon d + n); split <;> omega
  by_cases ok : AddOk d n
  · have ⟨a, b⟩ := addV_ok h ok.1 ok.2
    have hy := yr_bd ok.1.1 ok.1.2
    have h2 := ok.2
    have dk : DayOk (yr (mon d + n)) (mo (mon d + n)) r := ⟨hy.1, hy.2, r1.1, r1.2, by omega⟩
    exact Or.inl ⟨(day_in dk).2, b, by rw [(day_in dk).1, a]; omega⟩
  · have ⟨a, b⟩ := addV_no h ok
    refine Or.inr ⟨(day_out fun dk => ok ?_).2, b, a⟩
    have h5 := dk.2.2.2.2
    refine ⟨⟨h0, ?_⟩, by omega⟩
    by_cases g : mon d + n < 2154
    · exact g
    · have := st_lt (j := 2154) (k := mon d + n) (by omega); rw [st_2154] at this; omega

set_option maxRecDepth 100000 in
set_option maxHeartbeats 2000000 in
theorem radd_any (d n : Int) (w : World) :
    Calls Tryd.prog 43 #[.int .i64 d, .int .i64 n] w fun e w' => e = .returned (.tuple #[.int .i64 (addV d n), .int .i64 (addE d n)]) ∧ w' = w := by
  have HC := hid (fun w1 => rymd_any d w1)
  by_cases h : IsD d
  · have ⟨e1, e2, e3, e4, _, _⟩ := ymd_in h
    rw [e1, e2, e3, e4] at HC
    have ⟨b0, b1⟩ := mon_lt h.1 h.2
    have hy := yr_bd b0 b1
    have hm := mo_bd (mon d)
    have he := yrmo (mon d)
    have hd := mon_day h.1
    have hb := ml_bd (mon d)
    by_cases hlo : n < -2153
    · have ⟨a1, a2⟩ := addV_no (d := d) (n := n) h (fun g => by have := g.1.1; omega)
      rw [a1, a2]
      clear e1 e2 e3 e4 h b0 b1 hy hm he hd hb a1 a2
      generalize d - st (mon d) + 1 = D at *
      generalize mon d = k at *
      generalize yr k = Y at *
      generalize mo k = M at *
      go_enter Tryd.func43, Tryd.ntmps43
      go_wp2_with (go_at_call 39; refine (HC.out _).mono ?_; rintro e w' ⟨rfl, rfl⟩)
      go_ret2
      exact ⟨rfl, rfl⟩
    by_cases hhi : 2153 < n
    · have ⟨a1, a2⟩ := addV_no (d := d) (n := n) h (fun g => by have := g.1.2; omega)
      rw [a1, a2]
      clear e1 e2 e3 e4 h b0 b1 hy hm he hd hb a1 a2
      generalize d - st (mon d) + 1 = D at *
      generalize mon d = k at *
      generalize yr k = Y at *
      generalize mo k = M at *
      go_enter Tryd.func43, Tryd.ntmps43
      go_wp2_with (go_at_call 39; refine (HC.out _).mono ?_; rintro e w' ⟨rfl, rfl⟩)
      go_ret2
      exact ⟨rfl, rfl⟩
    by_cases hk : mon d + n < 0
    · have ⟨a1, a2⟩ := addV_no (d := d) (n := n) h (fun g => by have := g.1.1; omega)
      rw [a1, a2]
      clear e1 e2 e3 e4 h hd hb a1 a2
      generalize d - st (mon d) + 1 = D at *
      generalize mon d = k at *
      generalize yr k = Y at *
      generalize mo k = M at *
      obtain ⟨hy1, hy2⟩ := hy
      obtain ⟨hm1, hm2⟩ := hm
      subst he
      go_enter Tryd.func43, Tryd.ntmps43
      go_wp2_with (go_at_call 39; refine (HC.out _).mono ?_; rintro e w' ⟨rfl, rfl⟩)
      go_ret2
      exact ⟨rfl, rfl⟩
    have hx := radd_day (n := n) h (by omega) rfl
    have hl := ml_bd (mon d + n)
    have HN : Hid (lenM (1900 + (mon d + n) / 12) ((mon d + n) % 12 + 1) = ml (mon d + n)) := rfl
    obtain ⟨D, hD⟩ : ∃ D, d - st (mon d) + 1 = D := ⟨_, rfl⟩
    rw [hD] at HC hx
    obtain ⟨L, hL⟩ : ∃ L, ml (mon d + n) = L := ⟨_, rfl⟩
    rw [hL] at hl hx HN
    obtain ⟨hl1, hl2⟩ := hl
    have d1 : 1 ≤ D := by omega
    have d2 : D ≤ 31 := by omega
    obtain ⟨K, hK⟩ : ∃ K, mon d + n = K := ⟨_, rfl⟩
    rw [hK] at hx HN hk
    have k1 : ¬ K < 0 := hk
    have k2 : K ≤ 4400 := by omega
    generalize yr (mon d) = Y at *
    generalize mo (mon d) = M at *
    have he2 : 12 * (Y - 1900) + M - 1 + n = K := by omega
    have HE := hid he2
    obtain ⟨hy1, hy2⟩ := hy
    obtain ⟨hm1, hm2⟩ := hm
    have e0 : ¬ 12 * (Y - 1900) + M - 1 + n < 0 := by omega
    clear e1 e2 e3 e4 h hd hb hD hL b0 b1 hK he hk he2
    have HR : Hid (∀ w1, Calls Tryd.prog 16 #[.int .i64 (1900 + K / 12), .int .i64 (K % 12 + 1), .int .i64 (if D ≤ L then D else L)] w1 fun e w' => e = .returned (.tuple #[.int .i64 (dayV (yr K) (mo K) (if D ≤ L then D else L)), .int .i64 (dayE (yr K) (mo K) (if D ≤ L then D else L))]) ∧ w' = w1) := fun w1 => rday_any _ _ _ w1
    by_cases hc : D ≤ L
    all_goals
      first | rw [if_pos hc] at hx HR | rw [if_neg hc] at hx HR
      rcases hx with ⟨x1, x2, x3⟩ | ⟨x1, x2, x3⟩
      · rw [x1, x3] at HR
        rw [x2]
        clear x1 x2 x3
        generalize addV d n = V at *
        go_enter Tryd.func43, Tryd.ntmps43
        go_wp2_with fail
        refine (HC.out _).mono ?_
        rintro e w' ⟨rfl, rfl⟩
        go_wp2_with fail
        rw [HE.out]
        refine (rlen_any _ _ _).mono ?_
        rintro e w' ⟨rfl, rfl⟩
        rw [HN.out]
        go_wp2_with fail
        refine (HR.out _).mono ?_
        rintro e w' ⟨rfl, rfl⟩
        go_wp2_with fail
        go_ret2
        exact ⟨rfl, rfl⟩
      · rw [x1] at HR
        rw [x2, x3]
        clear x1 x2 x3
        generalize dayV (yr K) (mo K) _ = V at *
        go_enter Tryd.func43, Tryd.ntmps43
        go_wp2_with fail
        refine (HC.out _).mono ?_
        rintro e w' ⟨rfl, rfl⟩
        go_wp2_with fail
        rw [HE.out]
        refine (rlen_any _ _ _).mono ?_
        rintro e w' ⟨rfl, rfl⟩
        rw [HN.out]
        go_wp2_with fail
        refine (HR.out _).mono ?_
        rintro e w' ⟨rfl, rfl⟩
        go_wp2_with fail
        go_ret2
        exact ⟨rfl, rfl⟩
  · have ⟨e1, e2, e3, e4, e5, _⟩ := ymd_out h
    have ⟨a1, a2⟩ := addV_arg (n := n) h
    rw [e1, e2, e3, e4] at HC
    rw [a1, a2]
    clear e1 e2 e3 e4 e5 h a1 a2
    go_enter Tryd.func43, Tryd.ntmps43
    go_wp2_with (go_at_call 39; refine (HC.out _).mono ?_; rintro e w' ⟨rfl, rfl⟩)
    go_ret2
    exact ⟨rfl, rfl⟩
end Go.Proofs.YtmpkjooglpomoaaDoor
