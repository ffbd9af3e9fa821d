/- SpanNumbers' function returns true. -/
import Derived.Test.YtpafnakepgjmnaaAw
namespace Go.Proofs.Ytpafnakepgjmnaa
open Go.RowKit Go.Lib Go.Shelf

set_option maxRecDepth 100000 in
set_option maxHeartbeats 8000000 in
theorem numbers_law (z0 : List Int) (z day : Int) (X0 : Option Addr) (n0 k0 : Nat) (w : World) (b0 : n0 ≤ 4611686018427387904) (h0 : U16H w X0 n0 z0) (hz1 : -9223372036854775808 ≤ z) (hz2 : z ≤ 9223372036854775807) (hd1 : -9223372036854775808 ≤ day) (hd2 : day ≤ 9223372036854775807) :
    Calls Try.prog 8 #[.slice X0 n0 k0, .int .i64 z, .int .i64 day] w fun e w' => e = .returned (.bool true) ∧ Below w.heap.size w w' := by
  have HB := hid (Below.refl w.heap.size w)
  have U0 := hid h0
  clear h0
  go_enter Try.func8, Try.ntmps8
  go_wp2_with fail
  refine (awake_any _).mono ?_
  rintro e u1 ⟨rfl, h⟩
  replace HB := hid (HB.out.trans (h.mono HB.out.size))
  clear h
  go_wp2_with fail
  refine (built_any z0 X0 n0 k0 _ b0 (U0.out.below HB.out)).mono ?_
  rintro e u2 ⟨v, a, rfl, Ia, la, ho, h⟩
  obtain ⟨Aa, ca, rfl, hca, _, Sa⟩ := ho.view
  clear ho
  replace Sa := hid Sa
  replace Ia := hid Ia
  replace HB := hid (HB.out.trans (h.mono HB.out.size))
  clear h
  obtain ⟨all, Hall⟩ : ∃ r, Hid (lenSum a = r) := ⟨_, rfl⟩
  have Ball : 0 ≤ all ∧ all ≤ 65536 := by rw [← Hall.out]; exact Ia.out.sum_bd
  obtain ⟨Balll, Ballu⟩ := Ball
  go_wp2_with fail
  refine (days_eq (la := a) (r := all) Hall.out Ia.out rfl Sa.out).mono ?_
  rintro e u3 ⟨rfl, h⟩
  replace Sa := hid (Sa.out.below h)
  replace HB := hid (HB.out.trans (h.mono HB.out.size))
  clear h
  obtain ⟨nn, Hnn⟩ : ∃ r, Hid (z % (all + 2) = r) := ⟨_, rfl⟩
  have Bnn : 0 ≤ nn ∧ nn < all + 2 := by rw [← Hnn.out]; exact ⟨Int.emod_nonneg _ (by omega), Int.emod_lt_of_pos _ (by omega)⟩
  obtain ⟨Bnl, Bnu⟩ := Bnn
  go_wp2_with fail
  refine (pick_any z (all + 2) _ (by omega) (by omega) hz1 hz2).mono ?_
  rintro e _ ⟨rfl, rfl⟩
  rw [Hnn.out]
  have Hb : ∃ r, Hid (befL a day = r) := ⟨_, rfl⟩
  obtain ⟨bd, Hbd⟩ := Hb
  have Bbd : 0 ≤ bd ∧ bd ≤ all := by rw [← Hbd.out, ← Hall.out]; exact SetFrom.bef_bd Ia.out
  obtain ⟨Bbl, Bbu⟩ := Bbd
  have H0 := hid (show befL a 0 = 0 from SetFrom.bef_low Ia.out (by omega))
  have H1 := hid (show befL a 65536 = all from (Ia.out.bef_all (by omega)).trans Hall.out)
  have H2 := hid (show befL a (-9223372036854775808) = 0 from SetFrom.bef_low Ia.out (by omega))
  have H3 := hid (show befL a 9223372036854775807 = all from (Ia.out.bef_all (by omega)).trans Hall.out)
  rcases hnth : nthL a nn with _ | d
  · have T := hid (show decide (nn < all) = false from decide_eq_false (by have := (nthL_none Ia.out Bnl).1 hnth; rw [Hall.out] at this; omega))
    have H6 := hid (show (nthL a nn).getD 0 = 0 by rw [hnth]; rfl)
    have H7 := hid (show (nthL a nn).isSome = false by rw [hnth]; rfl)
    clear hnth
    go_wp2_with fail
    refine (nth_eq (la := a) (r := 0) (b := false) H6.out H7.out Ia.out Bnl (by omega) rfl Sa.out).mono ?_
    rintro e u5 ⟨rfl, h⟩
    replace Sa := hid (Sa.out.below h)
    replace HB := hid (HB.out.trans (h.mono HB.out.size))
    clear h
    have t1 := T.out
    clear T
    go_wp2_with fail
    refine (before_eq (la := a) (r := bd) (d := day) Hbd.out Ia.out rfl hca Sa.out).mono ?_
    rintro e u6 ⟨rfl, h⟩
    replace Sa := hid (Sa.out.below h)
    replace HB := hid (HB.out.trans (h.mono HB.out.size))
    clear h
    rcases hday : nthL a bd with _ | x
    · have hm : memB a day = false := by
        cases hq : memB a day with
        | false => rfl
        | true => exact absurd (show (none : Option Int) = some day from hday.symm.trans (by rw [← Hbd.out]; exact nthL_bef Ia.out hq)) (by simp)
      have Hx := hid (show (nthL a bd).getD 0 = 0 by rw [hday]; rfl)
      have Hy := hid (show (nthL a bd).isSome = false by rw [hday]; rfl)
      have Hm := hid hm
      clear hm hday
      go_wp2_with fail
      refine (nth_eq (la := a) (r := 0) (b := false) Hx.out Hy.out Ia.out (by omega) (by omega) rfl Sa.out).mono ?_
      rintro e u7 ⟨rfl, h⟩
      replace Sa := hid (Sa.out.below h)
      replace HB := hid (HB.out.trans (h.mono HB.out.size))
      clear h
      go_wp2_with fail
      refine (has_eq (la := a) (r := false) (d := day) Hm.out Ia.out rfl Sa.out).mono ?_
      rintro e u8 ⟨rfl, h⟩
      replace Sa := hid (Sa.out.below h)
      replace HB := hid (HB.out.trans (h.mono HB.out.size))
      clear h
      go_wp2_with fail
      refine (nth_no a Aa _ ca (-1) _ rfl (by omega) (fun h => absurd h.2 (by omega)) Sa.out).mono ?_
      rintro e u9 ⟨rfl, h⟩
      replace Sa := hid (Sa.out.below h)
      replace HB := hid (HB.out.trans (h.mono HB.out.size))
      clear h
      go_wp2_with fail
      refine (before_eq (la := a) (r := 0) (d := 0) H0.out Ia.out rfl hca Sa.out).mono ?_
      rintro e u10 ⟨rfl, h⟩
      replace Sa := hid (Sa.out.below h)
      replace HB := hid (HB.out.trans (h.mono HB.out.size))
      clear h
      go_wp2_with fail
      refine (before_eq (la := a) (r := all) (d := 65536) H1.out Ia.out rfl hca Sa.out).mono ?_
      rintro e u11 ⟨rfl, h⟩
      replace Sa := hid (Sa.out.below h)
      replace HB := hid (HB.out.trans (h.mono HB.out.size))
      clear h
      have t11 : (all == all) = true := by simp
      go_wp2_with fail
      refine (before_eq (la := a) (r := 0) (d := (-9223372036854775808)) H2.out Ia.out rfl hca Sa.out).mono ?_
      rintro e u12 ⟨rfl, h⟩
      replace Sa := hid (Sa.out.below h)
      replace HB := hid (HB.out.trans (h.mono HB.out.size))
      clear h
      go_wp2_with fail
      refine (before_eq (la := a) (r := all) (d := 9223372036854775807) H3.out Ia.out rfl hca Sa.out).mono ?_
      rintro e u13 ⟨rfl, h⟩
      replace Sa := hid (Sa.out.below h)
      replace HB := hid (HB.out.trans (h.mono HB.out.size))
      clear h
      have t13 : (all == all) = true := by simp
      go_wp2
      go_ret
      exact ⟨rfl, HB.out⟩
    · by_cases hm : memB a day = true
      · have Hx := hid (show (nthL a bd).getD 0 = x by rw [hday]; rfl)
        have Hy := hid (show (nthL a bd).isSome = true by rw [hday]; rfl)
        have Hm := hid hm
        have Hxd : x = day := Option.some.inj (hday.symm.trans (by rw [← Hbd.out]; exact nthL_bef Ia.out hm))
        subst Hxd
        have T := hid (show (x != x) = false by simp)
        have T2 := hid (show decide (x < x) = false by simp)
        clear hm hday
        go_wp2_with fail
        refine (nth_eq (la := a) (r := x) (b := true) Hx.out Hy.out Ia.out (by omega) (by omega) rfl Sa.out).mono ?_
        rintro e u7 ⟨rfl, h⟩
        replace Sa := hid (Sa.out.below h)
        replace HB := hid (HB.out.trans (h.mono HB.out.size))
        clear h
        go_wp2_with fail
        refine (has_eq (la := a) (r := true) (d := x) Hm.out Ia.out rfl Sa.out).mono ?_
        rintro e u8 ⟨rfl, h⟩
        replace Sa := hid (Sa.out.below h)
        replace HB := hid (HB.out.trans (h.mono HB.out.size))
        clear h
        have t1 := T.out
        have t2 := T2.out
        go_wp2_with fail
        refine (nth_no a Aa _ ca (-1) _ rfl (by omega) (fun h => absurd h.2 (by omega)) Sa.out).mono ?_
        rintro e u9 ⟨rfl, h⟩
        replace Sa := hid (Sa.out.below h)
        replace HB := hid (HB.out.trans (h.mono HB.out.size))
        clear h
        go_wp2_with fail
        refine (before_eq (la := a) (r := 0) (d := 0) H0.out Ia.out rfl hca Sa.out).mono ?_
        rintro e u10 ⟨rfl, h⟩
        replace Sa := hid (Sa.out.below h)
        replace HB := hid (HB.out.trans (h.mono HB.out.size))
        clear h
        go_wp2_with fail
        refine (before_eq (la := a) (r := all) (d := 65536) H1.out Ia.out rfl hca Sa.out).mono ?_
        rintro e u11 ⟨rfl, h⟩
        replace Sa := hid (Sa.out.below h)
        replace HB := hid (HB.out.trans (h.mono HB.out.size))
        clear h
        have t11 : (all == all) = true := by simp
        go_wp2_with fail
        refine (before_eq (la := a) (r := 0) (d := (-9223372036854775808)) H2.out Ia.out rfl hca Sa.out).mono ?_
        rintro e u12 ⟨rfl, h⟩
        replace Sa := hid (Sa.out.below h)
        replace HB := hid (HB.out.trans (h.mono HB.out.size))
        clear h
        go_wp2_with fail
        refine (before_eq (la := a) (r := all) (d := 9223372036854775807) H3.out Ia.out rfl hca Sa.out).mono ?_
        rintro e u13 ⟨rfl, h⟩
        replace Sa := hid (Sa.out.below h)
        replace HB := hid (HB.out.trans (h.mono HB.out.size))
        clear h
        have t13 : (all == all) = true := by simp
        go_wp2
        go_ret
        exact ⟨rfl, HB.out⟩
      · have hm : memB a day = false := by simpa using hm
        have Hx := hid (show (nthL a bd).getD 0 = x by rw [hday]; rfl)
        have Hy := hid (show (nthL a bd).isSome = true by rw [hday]; rfl)
        have Hm := hid hm
        have Hxd : day ≤ x := nthL_ge Ia.out (by rw [Hbd.out]; exact hday)
        have T2 := hid (show decide (x < day) = false from decide_eq_false (by omega))
        clear hm hday
        go_wp2_with fail
        refine (nth_eq (la := a) (r := x) (b := true) Hx.out Hy.out Ia.out (by omega) (by omega) rfl Sa.out).mono ?_
        rintro e u7 ⟨rfl, h⟩
        replace Sa := hid (Sa.out.below h)
        replace HB := hid (HB.out.trans (h.mono HB.out.size))
        clear h
        go_wp2_with fail
        refine (has_eq (la := a) (r := false) (d := day) Hm.out Ia.out rfl Sa.out).mono ?_
        rintro e u8 ⟨rfl, h⟩
        replace Sa := hid (Sa.out.below h)
        replace HB := hid (HB.out.trans (h.mono HB.out.size))
        clear h
        have t2 := T2.out
        go_wp2_with fail
        refine (nth_no a Aa _ ca (-1) _ rfl (by omega) (fun h => absurd h.2 (by omega)) Sa.out).mono ?_
        rintro e u9 ⟨rfl, h⟩
        replace Sa := hid (Sa.out.below h)
        replace HB := hid (HB.out.trans (h.mono HB.out.size))
        clear h
        go_wp2_with fail
        refine (before_eq (la := a) (r := 0) (d := 0) H0.out Ia.out rfl hca Sa.out).mono ?_
        rintro e u10 ⟨rfl, h⟩
        replace Sa := hid (Sa.out.below h)
        replace HB := hid (HB.out.trans (h.mono HB.out.size))
        clear h
        go_wp2_with fail
        refine (before_eq (la := a) (r := all) (d := 65536) H1.out Ia.out rfl hca Sa.out).mono ?_
        rintro e u11 ⟨rfl, h⟩
        replace Sa := hid (Sa.out.below h)
        replace HB := hid (HB.out.trans (h.mono HB.out.size))
        clear h
        have t11 : (all == all) = true := by simp
        go_wp2_with fail
        refine (before_eq (la := a) (r := 0) (d := (-9223372036854775808)) H2.out Ia.out rfl hca Sa.out).mono ?_
        rintro e u12 ⟨rfl, h⟩
        replace Sa := hid (Sa.out.below h)
        replace HB := hid (HB.out.trans (h.mono HB.out.size))
        clear h
        go_wp2_with fail
        refine (before_eq (la := a) (r := all) (d := 9223372036854775807) H3.out Ia.out rfl hca Sa.out).mono ?_
        rintro e u13 ⟨rfl, h⟩
        replace Sa := hid (Sa.out.below h)
        replace HB := hid (HB.out.trans (h.mono HB.out.size))
        clear h
        have t13 : (all == all) = true := by simp
        go_wp2
        go_ret
        exact ⟨rfl, HB.out⟩
  · have hp := nthL_some Ia.out Bnl hnth
    have T := hid (show decide (nn < all) = true from decide_eq_true (by
      rcases Int.lt_or_le nn all with h | h
      · exact h
      · exact absurd (hnth.symm.trans ((nthL_none Ia.out Bnl).2 (by rw [Hall.out]; exact h))) (by simp)))
    have H4 := hid hp.1
    have H5 := hid hp.2
    clear hp
    have H6 := hid (show (nthL a nn).getD 0 = d by rw [hnth]; rfl)
    have H7 := hid (show (nthL a nn).isSome = true by rw [hnth]; rfl)
    clear hnth
    go_wp2_with fail
    refine (nth_eq (la := a) (r := d) (b := true) H6.out H7.out Ia.out Bnl (by omega) rfl Sa.out).mono ?_
    rintro e u5 ⟨rfl, h⟩
    replace Sa := hid (Sa.out.below h)
    replace HB := hid (HB.out.trans (h.mono HB.out.size))
    clear h
    have t1 := T.out
    go_wp2_with fail
    refine (before_eq (la := a) (r := nn) (d := d) H4.out Ia.out rfl hca Sa.out).mono ?_
    rintro e u6 ⟨rfl, h⟩
    replace Sa := hid (Sa.out.below h)
    replace HB := hid (HB.out.trans (h.mono HB.out.size))
    clear h
    have t3 : (nn != nn) = false := by simp
    go_wp2_with fail
    refine (has_eq (la := a) (r := true) (d := d) H5.out Ia.out rfl Sa.out).mono ?_
    rintro e u7 ⟨rfl, h⟩
    replace Sa := hid (Sa.out.below h)
    replace HB := hid (HB.out.trans (h.mono HB.out.size))
    clear h
    clear T
    go_wp2_with fail
    refine (before_eq (la := a) (r := bd) (d := day) Hbd.out Ia.out rfl hca Sa.out).mono ?_
    rintro e u8 ⟨rfl, h⟩
    replace Sa := hid (Sa.out.below h)
    replace HB := hid (HB.out.trans (h.mono HB.out.size))
    clear h
    rcases hday : nthL a bd with _ | x
    · have hm : memB a day = false := by
        cases hq : memB a day with
        | false => rfl
        | true => exact absurd (show (none : Option Int) = some day from hday.symm.trans (by rw [← Hbd.out]; exact nthL_bef Ia.out hq)) (by simp)
      have Hx := hid (show (nthL a bd).getD 0 = 0 by rw [hday]; rfl)
      have Hy := hid (show (nthL a bd).isSome = false by rw [hday]; rfl)
      have Hm := hid hm
      clear hm hday
      go_wp2_with fail
      refine (nth_eq (la := a) (r := 0) (b := false) Hx.out Hy.out Ia.out (by omega) (by omega) rfl Sa.out).mono ?_
      rintro e u9 ⟨rfl, h⟩
      replace Sa := hid (Sa.out.below h)
      replace HB := hid (HB.out.trans (h.mono HB.out.size))
      clear h
      go_wp2_with fail
      refine (has_eq (la := a) (r := false) (d := day) Hm.out Ia.out rfl Sa.out).mono ?_
      rintro e u10 ⟨rfl, h⟩
      replace Sa := hid (Sa.out.below h)
      replace HB := hid (HB.out.trans (h.mono HB.out.size))
      clear h
      go_wp2_with fail
      refine (nth_no a Aa _ ca (-1) _ rfl (by omega) (fun h => absurd h.2 (by omega)) Sa.out).mono ?_
      rintro e u11 ⟨rfl, h⟩
      replace Sa := hid (Sa.out.below h)
      replace HB := hid (HB.out.trans (h.mono HB.out.size))
      clear h
      go_wp2_with fail
      refine (before_eq (la := a) (r := 0) (d := 0) H0.out Ia.out rfl hca Sa.out).mono ?_
      rintro e u12 ⟨rfl, h⟩
      replace Sa := hid (Sa.out.below h)
      replace HB := hid (HB.out.trans (h.mono HB.out.size))
      clear h
      go_wp2_with fail
      refine (before_eq (la := a) (r := all) (d := 65536) H1.out Ia.out rfl hca Sa.out).mono ?_
      rintro e u13 ⟨rfl, h⟩
      replace Sa := hid (Sa.out.below h)
      replace HB := hid (HB.out.trans (h.mono HB.out.size))
      clear h
      have t13 : (all == all) = true := by simp
      go_wp2_with fail
      refine (before_eq (la := a) (r := 0) (d := (-9223372036854775808)) H2.out Ia.out rfl hca Sa.out).mono ?_
      rintro e u14 ⟨rfl, h⟩
      replace Sa := hid (Sa.out.below h)
      replace HB := hid (HB.out.trans (h.mono HB.out.size))
      clear h
      go_wp2_with fail
      refine (before_eq (la := a) (r := all) (d := 9223372036854775807) H3.out Ia.out rfl hca Sa.out).mono ?_
      rintro e u15 ⟨rfl, h⟩
      replace Sa := hid (Sa.out.below h)
      replace HB := hid (HB.out.trans (h.mono HB.out.size))
      clear h
      have t15 : (all == all) = true := by simp
      go_wp2
      go_ret
      exact ⟨rfl, HB.out⟩
    · by_cases hm : memB a day = true
      · have Hx := hid (show (nthL a bd).getD 0 = x by rw [hday]; rfl)
        have Hy := hid (show (nthL a bd).isSome = true by rw [hday]; rfl)
        have Hm := hid hm
        have Hxd : x = day := Option.some.inj (hday.symm.trans (by rw [← Hbd.out]; exact nthL_bef Ia.out hm))
        subst Hxd
        have T := hid (show (x != x) = false by simp)
        have T2 := hid (show decide (x < x) = false by simp)
        clear hm hday
        go_wp2_with fail
        refine (nth_eq (la := a) (r := x) (b := true) Hx.out Hy.out Ia.out (by omega) (by omega) rfl Sa.out).mono ?_
        rintro e u9 ⟨rfl, h⟩
        replace Sa := hid (Sa.out.below h)
        replace HB := hid (HB.out.trans (h.mono HB.out.size))
        clear h
        go_wp2_with fail
        refine (has_eq (la := a) (r := true) (d := x) Hm.out Ia.out rfl Sa.out).mono ?_
        rintro e u10 ⟨rfl, h⟩
        replace Sa := hid (Sa.out.below h)
        replace HB := hid (HB.out.trans (h.mono HB.out.size))
        clear h
        have t1 := T.out
        have t2 := T2.out
        go_wp2_with fail
        refine (nth_no a Aa _ ca (-1) _ rfl (by omega) (fun h => absurd h.2 (by omega)) Sa.out).mono ?_
        rintro e u11 ⟨rfl, h⟩
        replace Sa := hid (Sa.out.below h)
        replace HB := hid (HB.out.trans (h.mono HB.out.size))
        clear h
        go_wp2_with fail
        refine (before_eq (la := a) (r := 0) (d := 0) H0.out Ia.out rfl hca Sa.out).mono ?_
        rintro e u12 ⟨rfl, h⟩
        replace Sa := hid (Sa.out.below h)
        replace HB := hid (HB.out.trans (h.mono HB.out.size))
        clear h
        go_wp2_with fail
        refine (before_eq (la := a) (r := all) (d := 65536) H1.out Ia.out rfl hca Sa.out).mono ?_
        rintro e u13 ⟨rfl, h⟩
        replace Sa := hid (Sa.out.below h)
        replace HB := hid (HB.out.trans (h.mono HB.out.size))
        clear h
        have t13 : (all == all) = true := by simp
        go_wp2_with fail
        refine (before_eq (la := a) (r := 0) (d := (-9223372036854775808)) H2.out Ia.out rfl hca Sa.out).mono ?_
        rintro e u14 ⟨rfl, h⟩
        replace Sa := hid (Sa.out.below h)
        replace HB := hid (HB.out.trans (h.mono HB.out.size))
        clear h
        go_wp2_with fail
        refine (before_eq (la := a) (r := all) (d := 9223372036854775807) H3.out Ia.out rfl hca Sa.out).mono ?_
        rintro e u15 ⟨rfl, h⟩
        replace Sa := hid (Sa.out.below h)
        replace HB := hid (HB.out.trans (h.mono HB.out.size))
        clear h
        have t15 : (all == all) = true := by simp
        go_wp2
        go_ret
        exact ⟨rfl, HB.out⟩
      · have hm : memB a day = false := by simpa using hm
        have Hx := hid (show (nthL a bd).getD 0 = x by rw [hday]; rfl)
        have Hy := hid (show (nthL a bd).isSome = true by rw [hday]; rfl)
        have Hm := hid hm
        have Hxd : day ≤ x := nthL_ge Ia.out (by rw [Hbd.out]; exact hday)
        have T2 := hid (show decide (x < day) = false from decide_eq_false (by omega))
        clear hm hday
        go_wp2_with fail
        refine (nth_eq (la := a) (r := x) (b := true) Hx.out Hy.out Ia.out (by omega) (by omega) rfl Sa.out).mono ?_
        rintro e u9 ⟨rfl, h⟩
        replace Sa := hid (Sa.out.below h)
        replace HB := hid (HB.out.trans (h.mono HB.out.size))
        clear h
        go_wp2_with fail
        refine (has_eq (la := a) (r := false) (d := day) Hm.out Ia.out rfl Sa.out).mono ?_
        rintro e u10 ⟨rfl, h⟩
        replace Sa := hid (Sa.out.below h)
        replace HB := hid (HB.out.trans (h.mono HB.out.size))
        clear h
        have t2 := T2.out
        go_wp2_with fail
        refine (nth_no a Aa _ ca (-1) _ rfl (by omega) (fun h => absurd h.2 (by omega)) Sa.out).mono ?_
        rintro e u11 ⟨rfl, h⟩
        replace Sa := hid (Sa.out.below h)
        replace HB := hid (HB.out.trans (h.mono HB.out.size))
        clear h
        go_wp2_with fail
        refine (before_eq (la := a) (r := 0) (d := 0) H0.out Ia.out rfl hca Sa.out).mono ?_
        rintro e u12 ⟨rfl, h⟩
        replace Sa := hid (Sa.out.below h)
        replace HB := hid (HB.out.trans (h.mono HB.out.size))
        clear h
        go_wp2_with fail
        refine (before_eq (la := a) (r := all) (d := 65536) H1.out Ia.out rfl hca Sa.out).mono ?_
        rintro e u13 ⟨rfl, h⟩
        replace Sa := hid (Sa.out.below h)
        replace HB := hid (HB.out.trans (h.mono HB.out.size))
        clear h
        have t13 : (all == all) = true := by simp
        go_wp2_with fail
        refine (before_eq (la := a) (r := 0) (d := (-9223372036854775808)) H2.out Ia.out rfl hca Sa.out).mono ?_
        rintro e u14 ⟨rfl, h⟩
        replace Sa := hid (Sa.out.below h)
        replace HB := hid (HB.out.trans (h.mono HB.out.size))
        clear h
        go_wp2_with fail
        refine (before_eq (la := a) (r := all) (d := 9223372036854775807) H3.out Ia.out rfl hca Sa.out).mono ?_
        rintro e u15 ⟨rfl, h⟩
        replace Sa := hid (Sa.out.below h)
        replace HB := hid (HB.out.trans (h.mono HB.out.size))
        clear h
        have t15 : (all == all) = true := by simp
        go_wp2
        go_ret
        exact ⟨rfl, HB.out⟩
end Go.Proofs.Ytpafnakepgjmnaa
