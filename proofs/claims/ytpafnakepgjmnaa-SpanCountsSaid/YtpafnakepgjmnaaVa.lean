/- SpanCounts' function returns true. -/
import Derived.Test.YtpafnakepgjmnaaSp6
import Derived.Test.YtpafnakepgjmnaaAw
namespace Go.Proofs.Ytpafnakepgjmnaa
open Go.RowKit Go.Lib Go.Shelf

set_option maxRecDepth 100000 in
set_option maxHeartbeats 8000000 in
theorem counts_law (z0 z1 : List Int) (X0 X1 : Option Addr) (n0 n1 k0 k1 : Nat) (w : World) (b0 : n0 ≤ 4611686018427387904) (b1 : n1 ≤ 4611686018427387904) (h0 : U16H w X0 n0 z0) (h1 : U16H w X1 n1 z1) :
    Calls Try.prog 6 #[.slice X0 n0 k0, .slice X1 n1 k1] w fun e w' => e = .returned (.bool true) ∧ Below w.heap.size w w' := by
  have HB := hid (Below.refl w.heap.size w)
  have U0 := hid h0
  have U1 := hid h1
  clear h0 h1
  go_enter Try.func6, Try.ntmps6
  go_wp2_with fail
  refine (awake_any _).mono ?_
  rintro e u1 ⟨rfl, h⟩
  replace HB := hid (HB.out.trans (h.mono HB.out.size))
  clear h
  go_wp2_with fail
  refine (built_any z0 X0 n0 k0 _ b0 (U0.out.below HB.out)).mono ?_
  rintro e u2 ⟨v, a, rfl, Ia, la, ho, h⟩
  obtain ⟨Aa, ca, rfl, hca, _, Sa⟩ := ho.view
  clear ho
  replace Sa := hid Sa
  replace Ia := hid Ia
  replace HB := hid (HB.out.trans (h.mono HB.out.size))
  clear h
  go_wp2_with fail
  refine (built_any z1 X1 n1 k1 _ b1 (U1.out.below HB.out)).mono ?_
  rintro e u3 ⟨v, b, rfl, Ib, lb, ho, h⟩
  obtain ⟨Ab, cb, rfl, hcb, _, Sb⟩ := ho.view
  clear ho
  replace Sb := hid Sb
  replace Ib := hid Ib
  replace Sa := hid (Sa.out.below h)
  replace HB := hid (HB.out.trans (h.mono HB.out.size))
  clear h
  obtain ⟨u, Hu⟩ : ∃ r, Hid (combL orB a b = r) := ⟨_, rfl⟩
  have Iu : Hid (IsSet u) := by rw [← Hu.out]; exact norm_set _
  have lu := Iu.out.len_bd
  go_wp2_with fail
  refine (union_eq (la := a) (lb := b) (R := u) Hu.out Ia.out Ib.out rfl rfl Sa.out Sb.out).mono ?_
  rintro e u4 ⟨v, rfl, ho, h⟩
  obtain ⟨Au, cu, rfl, hcu, _, Su⟩ := ho.view
  clear ho
  replace Su := hid Su
  replace Sa := hid (Sa.out.below h)
  replace Sb := hid (Sb.out.below h)
  replace HB := hid (HB.out.trans (h.mono HB.out.size))
  clear h
  obtain ⟨v, Hv⟩ : ∃ r, Hid (combL andB a b = r) := ⟨_, rfl⟩
  have Iv : Hid (IsSet v) := by rw [← Hv.out]; exact norm_set _
  have lv := Iv.out.len_bd
  go_wp2_with fail
  refine (meet_eq (la := a) (lb := b) (R := v) Hv.out Ia.out Ib.out rfl rfl Sa.out Sb.out).mono ?_
  rintro e u5 ⟨v, rfl, ho, h⟩
  obtain ⟨Av, cv, rfl, hcv, _, Sv⟩ := ho.view
  clear ho
  replace Sv := hid Sv
  replace Sa := hid (Sa.out.below h)
  replace Sb := hid (Sb.out.below h)
  replace Su := hid (Su.out.below h)
  replace HB := hid (HB.out.trans (h.mono HB.out.size))
  clear h
  obtain ⟨x, Hx⟩ : ∃ r, Hid (combL butB a b = r) := ⟨_, rfl⟩
  have Ix : Hid (IsSet x) := by rw [← Hx.out]; exact norm_set _
  have lx := Ix.out.len_bd
  go_wp2_with fail
  refine (minus_eq (la := a) (lb := b) (R := x) Hx.out Ia.out Ib.out rfl rfl Sa.out Sb.out).mono ?_
  rintro e u6 ⟨v, rfl, ho, h⟩
  obtain ⟨Ax, cx, rfl, hcx, _, Sx⟩ := ho.view
  clear ho
  replace Sx := hid Sx
  replace Sa := hid (Sa.out.below h)
  replace Sb := hid (Sb.out.below h)
  replace Su := hid (Su.out.below h)
  replace Sv := hid (Sv.out.below h)
  replace HB := hid (HB.out.trans (h.mono HB.out.size))
  clear h
  obtain ⟨y, Hy⟩ : ∃ r, Hid (combL butB b a = r) := ⟨_, rfl⟩
  have Iy : Hid (IsSet y) := by rw [← Hy.out]; exact norm_set _
  have ly := Iy.out.len_bd
  go_wp2_with fail
  refine (minus_eq (la := b) (lb := a) (R := y) Hy.out Ib.out Ia.out rfl rfl Sb.out Sa.out).mono ?_
  rintro e u7 ⟨v, rfl, ho, h⟩
  obtain ⟨Ay, cy, rfl, hcy, _, Sy⟩ := ho.view
  clear ho
  replace Sy := hid Sy
  replace Sa := hid (Sa.out.below h)
  replace Sb := hid (Sb.out.below h)
  replace Su := hid (Su.out.below h)
  replace Sv := hid (Sv.out.below h)
  replace Sx := hid (Sx.out.below h)
  replace HB := hid (HB.out.trans (h.mono HB.out.size))
  clear h
  obtain ⟨du, Hdu⟩ : ∃ r, Hid (lenSum u = r) := ⟨_, rfl⟩
  have Bdu : 0 ≤ du ∧ du ≤ 65536 := by rw [← Hdu.out]; exact Iu.out.sum_bd
  obtain ⟨Bdul, Bduu⟩ := Bdu
  obtain ⟨dv, Hdv⟩ : ∃ r, Hid (lenSum v = r) := ⟨_, rfl⟩
  have Bdv : 0 ≤ dv ∧ dv ≤ 65536 := by rw [← Hdv.out]; exact Iv.out.sum_bd
  obtain ⟨Bdvl, Bdvu⟩ := Bdv
  obtain ⟨da, Hda⟩ : ∃ r, Hid (lenSum a = r) := ⟨_, rfl⟩
  have Bda : 0 ≤ da ∧ da ≤ 65536 := by rw [← Hda.out]; exact Ia.out.sum_bd
  obtain ⟨Bdal, Bdau⟩ := Bda
  obtain ⟨db, Hdb⟩ : ∃ r, Hid (lenSum b = r) := ⟨_, rfl⟩
  have Bdb : 0 ≤ db ∧ db ≤ 65536 := by rw [← Hdb.out]; exact Ib.out.sum_bd
  obtain ⟨Bdbl, Bdbu⟩ := Bdb
  obtain ⟨dx, Hdx⟩ : ∃ r, Hid (lenSum x = r) := ⟨_, rfl⟩
  have Bdx : 0 ≤ dx ∧ dx ≤ 65536 := by rw [← Hdx.out]; exact Ix.out.sum_bd
  obtain ⟨Bdxl, Bdxu⟩ := Bdx
  obtain ⟨dy, Hdy⟩ : ∃ r, Hid (lenSum y = r) := ⟨_, rfl⟩
  have Bdy : 0 ≤ dy ∧ dy ≤ 65536 := by rw [← Hdy.out]; exact Iy.out.sum_bd
  obtain ⟨Bdyl, Bdyu⟩ := Bdy
  have q1 : du + dv = da + db := by rw [← Hdu.out, ← Hdv.out, ← Hda.out, ← Hdb.out, ← Hu.out, ← Hv.out]; exact sum_or_and Ia.out Ib.out
  have q2 : dx + dy + dv = du := by rw [← Hdx.out, ← Hdy.out, ← Hdv.out, ← Hdu.out, ← Hx.out, ← Hy.out, ← Hv.out, ← Hu.out]; exact sum_three a b
  have t1 : ((du + dv) != (da + db)) = false := by rw [q1]; simp
  have t2 : ((dx + dy + dv) != du) = false := by rw [q2]; simp
  obtain ⟨r1, Hr1⟩ : ∃ r, Hid (withinB a b = r) := ⟨_, rfl⟩
  obtain ⟨r2, Hr2⟩ : ∃ r, Hid (withinB b a = r) := ⟨_, rfl⟩
  have t3 : ((x.length : Int) == 0) = r1 := by rw [← Hr1.out, ← Hx.out]; exact (within_len a b).symm
  have t4 : (dv == db) = r2 := by rw [← Hr2.out, ← Hdv.out, ← Hdb.out, ← Hv.out]; exact (within_sum Ib.out).symm
  have Hw1 : Hid (withinB v a = true) := by show _ = _; rw [← Hv.out]; exact within_of fun z hz => by simp [andB] at hz; exact hz.1
  have Hw2 : Hid (withinB a u = true) := by show _ = _; rw [← Hu.out]; exact within_norm Ia.out fun z hz => by simp [orB, hz]
  have T1 := hid t1
  have T2 := hid t2
  have T3 := hid t3
  have T4 := hid t4
  clear q1 q2 t1 t2 t3 t4
  go_wp2_with fail
  refine (days_eq (la := u) (r := du) Hdu.out Iu.out rfl Su.out).mono ?_
  rintro e u8 ⟨rfl, h⟩
  replace Sa := hid (Sa.out.below h)
  replace Sb := hid (Sb.out.below h)
  replace Su := hid (Su.out.below h)
  replace Sv := hid (Sv.out.below h)
  replace Sx := hid (Sx.out.below h)
  replace Sy := hid (Sy.out.below h)
  replace HB := hid (HB.out.trans (h.mono HB.out.size))
  clear h
  go_wp2_with fail
  refine (days_eq (la := v) (r := dv) Hdv.out Iv.out rfl Sv.out).mono ?_
  rintro e u9 ⟨rfl, h⟩
  replace Sa := hid (Sa.out.below h)
  replace Sb := hid (Sb.out.below h)
  replace Su := hid (Su.out.below h)
  replace Sv := hid (Sv.out.below h)
  replace Sx := hid (Sx.out.below h)
  replace Sy := hid (Sy.out.below h)
  replace HB := hid (HB.out.trans (h.mono HB.out.size))
  clear h
  go_wp2_with fail
  refine (days_eq (la := a) (r := da) Hda.out Ia.out rfl Sa.out).mono ?_
  rintro e u10 ⟨rfl, h⟩
  replace Sa := hid (Sa.out.below h)
  replace Sb := hid (Sb.out.below h)
  replace Su := hid (Su.out.below h)
  replace Sv := hid (Sv.out.below h)
  replace Sx := hid (Sx.out.below h)
  replace Sy := hid (Sy.out.below h)
  replace HB := hid (HB.out.trans (h.mono HB.out.size))
  clear h
  go_wp2_with fail
  refine (days_eq (la := b) (r := db) Hdb.out Ib.out rfl Sb.out).mono ?_
  rintro e u11 ⟨rfl, h⟩
  replace Sa := hid (Sa.out.below h)
  replace Sb := hid (Sb.out.below h)
  replace Su := hid (Su.out.below h)
  replace Sv := hid (Sv.out.below h)
  replace Sx := hid (Sx.out.below h)
  replace Sy := hid (Sy.out.below h)
  replace HB := hid (HB.out.trans (h.mono HB.out.size))
  clear h
  have t1 := T1.out
  go_wp2_with fail
  refine (days_eq (la := x) (r := dx) Hdx.out Ix.out rfl Sx.out).mono ?_
  rintro e u12 ⟨rfl, h⟩
  replace Sa := hid (Sa.out.below h)
  replace Sb := hid (Sb.out.below h)
  replace Su := hid (Su.out.below h)
  replace Sv := hid (Sv.out.below h)
  replace Sx := hid (Sx.out.below h)
  replace Sy := hid (Sy.out.below h)
  replace HB := hid (HB.out.trans (h.mono HB.out.size))
  clear h
  go_wp2_with fail
  refine (days_eq (la := y) (r := dy) Hdy.out Iy.out rfl Sy.out).mono ?_
  rintro e u13 ⟨rfl, h⟩
  replace Sa := hid (Sa.out.below h)
  replace Sb := hid (Sb.out.below h)
  replace Su := hid (Su.out.below h)
  replace Sv := hid (Sv.out.below h)
  replace Sx := hid (Sx.out.below h)
  replace Sy := hid (Sy.out.below h)
  replace HB := hid (HB.out.trans (h.mono HB.out.size))
  clear h
  go_wp2_with fail
  refine (days_eq (la := v) (r := dv) Hdv.out Iv.out rfl Sv.out).mono ?_
  rintro e u14 ⟨rfl, h⟩
  replace Sa := hid (Sa.out.below h)
  replace Sb := hid (Sb.out.below h)
  replace Su := hid (Su.out.below h)
  replace Sv := hid (Sv.out.below h)
  replace Sx := hid (Sx.out.below h)
  replace Sy := hid (Sy.out.below h)
  replace HB := hid (HB.out.trans (h.mono HB.out.size))
  clear h
  go_wp2_with fail
  refine (days_eq (la := u) (r := du) Hdu.out Iu.out rfl Su.out).mono ?_
  rintro e u15 ⟨rfl, h⟩
  replace Sa := hid (Sa.out.below h)
  replace Sb := hid (Sb.out.below h)
  replace Su := hid (Su.out.below h)
  replace Sv := hid (Sv.out.below h)
  replace Sx := hid (Sx.out.below h)
  replace Sy := hid (Sy.out.below h)
  replace HB := hid (HB.out.trans (h.mono HB.out.size))
  clear h
  have t2 := T2.out
  go_wp2_with fail
  refine (within_eq (la := v) (lb := a) (r := true) Hw1.out Iv.out Ia.out rfl rfl Sv.out Sa.out).mono ?_
  rintro e u16 ⟨rfl, h⟩
  replace Sa := hid (Sa.out.below h)
  replace Sb := hid (Sb.out.below h)
  replace Su := hid (Su.out.below h)
  replace Sv := hid (Sv.out.below h)
  replace Sx := hid (Sx.out.below h)
  replace Sy := hid (Sy.out.below h)
  replace HB := hid (HB.out.trans (h.mono HB.out.size))
  clear h
  go_wp2_with fail
  refine (within_eq (la := a) (lb := u) (r := true) Hw2.out Ia.out Iu.out rfl rfl Sa.out Su.out).mono ?_
  rintro e u17 ⟨rfl, h⟩
  replace Sa := hid (Sa.out.below h)
  replace Sb := hid (Sb.out.below h)
  replace Su := hid (Su.out.below h)
  replace Sv := hid (Sv.out.below h)
  replace Sx := hid (Sx.out.below h)
  replace Sy := hid (Sy.out.below h)
  replace HB := hid (HB.out.trans (h.mono HB.out.size))
  clear h
  go_wp2_with fail
  refine (within_eq (la := a) (lb := b) (r := r1) Hr1.out Ia.out Ib.out rfl rfl Sa.out Sb.out).mono ?_
  rintro e u18 ⟨rfl, h⟩
  replace Sa := hid (Sa.out.below h)
  replace Sb := hid (Sb.out.below h)
  replace Su := hid (Su.out.below h)
  replace Sv := hid (Sv.out.below h)
  replace Sx := hid (Sx.out.below h)
  replace Sy := hid (Sy.out.below h)
  replace HB := hid (HB.out.trans (h.mono HB.out.size))
  clear h
  have t3 := T3.out
  have t5 : (r1 == r1) = true := by simp
  go_wp2_with fail
  refine (within_eq (la := b) (lb := a) (r := r2) Hr2.out Ib.out Ia.out rfl rfl Sb.out Sa.out).mono ?_
  rintro e u19 ⟨rfl, h⟩
  replace Sa := hid (Sa.out.below h)
  replace Sb := hid (Sb.out.below h)
  replace Su := hid (Su.out.below h)
  replace Sv := hid (Sv.out.below h)
  replace Sx := hid (Sx.out.below h)
  replace Sy := hid (Sy.out.below h)
  replace HB := hid (HB.out.trans (h.mono HB.out.size))
  clear h
  go_wp2_with fail
  refine (days_eq (la := v) (r := dv) Hdv.out Iv.out rfl Sv.out).mono ?_
  rintro e u20 ⟨rfl, h⟩
  replace Sa := hid (Sa.out.below h)
  replace Sb := hid (Sb.out.below h)
  replace Su := hid (Su.out.below h)
  replace Sv := hid (Sv.out.below h)
  replace Sx := hid (Sx.out.below h)
  replace Sy := hid (Sy.out.below h)
  replace HB := hid (HB.out.trans (h.mono HB.out.size))
  clear h
  go_wp2_with fail
  refine (days_eq (la := b) (r := db) Hdb.out Ib.out rfl Sb.out).mono ?_
  rintro e u21 ⟨rfl, h⟩
  replace Sa := hid (Sa.out.below h)
  replace Sb := hid (Sb.out.below h)
  replace Su := hid (Su.out.below h)
  replace Sv := hid (Sv.out.below h)
  replace Sx := hid (Sx.out.below h)
  replace Sy := hid (Sy.out.below h)
  replace HB := hid (HB.out.trans (h.mono HB.out.size))
  clear h
  have t4 := T4.out
  have t6 : (r2 == r2) = true := by simp
  go_wp2
  go_ret
  exact ⟨rfl, HB.out⟩
end Go.Proofs.Ytpafnakepgjmnaa
