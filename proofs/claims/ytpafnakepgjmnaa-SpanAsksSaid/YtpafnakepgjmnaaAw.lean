/- awake returns true. -/
import Derived.Test.YtpafnakepgjmnaaSv
namespace Go.Proofs.Ytpafnakepgjmnaa
open Go.RowKit Go.Lib Go.Shelf

theorem IA : IsSet [(0, 10), (20, 30)] := by decide
theorem IB : IsSet [(5, 25)] := by decide
theorem Lx : combL orB [(0, 10), (20, 30)] [(5, 25)] = [(0, 30)] := by
  refine (norm_eq (by decide) fun x _ _ => ?_).symm
  rw [Bool.eq_iff_iff]; simp [memB, orB]; omega
theorem Ly : combL andB [(0, 10), (20, 30)] [(5, 25)] = [(5, 10), (20, 25)] := by
  refine (norm_eq (by decide) fun x _ _ => ?_).symm
  rw [Bool.eq_iff_iff]; simp [memB, andB]; omega
theorem Lz : combL butB [(0, 10), (20, 30)] [(5, 25)] = [(0, 5), (25, 30)] := by
  refine (norm_eq (by decide) fun x _ _ => ?_).symm
  rw [Bool.eq_iff_iff]; simp [memB, butB]; omega
theorem Lu : mergeL 10 [(0, 10), (20, 30)] = [(0, 30)] := by decide
theorem Lv : mergeL 9 [(0, 10), (20, 30)] = [(0, 10), (20, 30)] := by decide
theorem Lw : norm (memB [(5, 8), (3, 5), (9, 9)]) = [(3, 8)] := by
  refine (norm_eq (by decide) fun x _ _ => ?_).symm
  rw [Bool.eq_iff_iff]; simp [memB]; omega
theorem Vm : Vd [(5, 8), (3, 5), (9, 9)] := by intro s hs; simp at hs; rcases hs with rfl | rfl | rfl <;> omega
theorem Vt : validB [(0, 10), (10, 20)] = false := by decide

set_option maxRecDepth 100000 in
set_option maxHeartbeats 8000000 in
theorem awake_any (w : World) : Calls Try.prog 13 #[] w fun e w' => e = .returned (.bool true) ∧ Below w.heap.size w w' := by
  have HB := hid (Below.refl w.heap.size w)
  go_enter Try.func13, Try.ntmps13
  go_wp2_with fail
  refine (to_any 0 10 _).mono ?_
  rintro e u1 ⟨rfl, h⟩
  replace HB := hid (HB.out.trans (h.mono HB.out.size))
  clear h
  go_wp2_with fail
  refine (to_any 20 30 _).mono ?_
  rintro e u2 ⟨rfl, h⟩
  replace HB := hid (HB.out.trans (h.mono HB.out.size))
  clear h
  go_wp2_with fail
  refine (set_any _ _ _ _).mono ?_
  rintro e _ ⟨rfl, rfl⟩
  have h : Below u2.heap.size u2 (u2.alloc (.cells #[.int .i64 0, .int .i64 10, .int .i64 20, .int .i64 30] 34)) := (Below.refl _ _).alloc (Nat.le_refl _) _
  have Sa : Hid (SpH (u2.alloc (.cells #[.int .i64 0, .int .i64 10, .int .i64 20, .int .i64 30] 34)) (some ⟨u2.heap.size, 0, none⟩) [(0, 10), (20, 30)]) := Blk.sp (l := [(0, 10), (20, 30)]) (Blk.new u2 34 _)
  generalize u2.alloc (.cells #[.int .i64 0, .int .i64 10, .int .i64 20, .int .i64 30] 34) = u3 at *
  replace HB := hid (HB.out.trans (h.mono HB.out.size))
  clear h
  go_wp2_with fail
  refine (to_any 5 25 _).mono ?_
  rintro e u4 ⟨rfl, h⟩
  replace Sa := hid (Sa.out.below h)
  replace HB := hid (HB.out.trans (h.mono HB.out.size))
  clear h
  go_wp2_with fail
  refine (set_any _ _ _ _).mono ?_
  rintro e _ ⟨rfl, rfl⟩
  have h : Below u4.heap.size u4 (u4.alloc (.cells #[.int .i64 5, .int .i64 25] 34)) := (Below.refl _ _).alloc (Nat.le_refl _) _
  have Sb : Hid (SpH (u4.alloc (.cells #[.int .i64 5, .int .i64 25] 34)) (some ⟨u4.heap.size, 0, none⟩) [(5, 25)]) := Blk.sp (l := [(5, 25)]) (Blk.new u4 34 _)
  generalize u4.alloc (.cells #[.int .i64 5, .int .i64 25] 34) = u5 at *
  replace Sa := hid (Sa.out.below h)
  replace HB := hid (HB.out.trans (h.mono HB.out.size))
  clear h
  go_wp2_with fail
  refine (union_eq (la := [(0, 10), (20, 30)]) (lb := [(5, 25)]) (R := [(0, 30)]) Lx IA IB rfl rfl Sa.out Sb.out).mono ?_
  rintro e u6 ⟨v, rfl, ho, h⟩
  obtain ⟨Ax, cx, rfl, hcx, _, Sx⟩ := ho.view
  clear ho
  simp only [List.length_cons, List.length_nil, Nat.zero_add] at hcx Sx ⊢
  replace Sx := hid Sx
  replace Sa := hid (Sa.out.below h)
  replace Sb := hid (Sb.out.below h)
  replace HB := hid (HB.out.trans (h.mono HB.out.size))
  clear h
  go_wp2_with fail
  refine (meet_eq (la := [(0, 10), (20, 30)]) (lb := [(5, 25)]) (R := [(5, 10), (20, 25)]) Ly IA IB rfl rfl Sa.out Sb.out).mono ?_
  rintro e u7 ⟨v, rfl, ho, h⟩
  obtain ⟨Ay, cy, rfl, hcy, _, Sy⟩ := ho.view
  clear ho
  simp only [List.length_cons, List.length_nil, Nat.zero_add] at hcy Sy ⊢
  replace Sy := hid Sy
  replace Sa := hid (Sa.out.below h)
  replace Sb := hid (Sb.out.below h)
  replace Sx := hid (Sx.out.below h)
  replace HB := hid (HB.out.trans (h.mono HB.out.size))
  clear h
  go_wp2_with fail
  refine (minus_eq (la := [(0, 10), (20, 30)]) (lb := [(5, 25)]) (R := [(0, 5), (25, 30)]) Lz IA IB rfl rfl Sa.out Sb.out).mono ?_
  rintro e u8 ⟨v, rfl, ho, h⟩
  obtain ⟨Az, cz, rfl, hcz, _, Sz⟩ := ho.view
  clear ho
  simp only [List.length_cons, List.length_nil, Nat.zero_add] at hcz Sz ⊢
  replace Sz := hid Sz
  replace Sa := hid (Sa.out.below h)
  replace Sb := hid (Sb.out.below h)
  replace Sx := hid (Sx.out.below h)
  replace Sy := hid (Sy.out.below h)
  replace HB := hid (HB.out.trans (h.mono HB.out.size))
  clear h
  go_wp2_with fail
  refine (bridge_eq (la := [(0, 10), (20, 30)]) (R := [(0, 30)]) Lu IA (by omega) rfl Sa.out).mono ?_
  rintro e u9 ⟨v, rfl, ho, h⟩
  obtain ⟨Au, cu, rfl, hcu, _, Su⟩ := ho.view
  clear ho
  simp only [List.length_cons, List.length_nil, Nat.zero_add] at hcu Su ⊢
  replace Su := hid Su
  replace Sa := hid (Sa.out.below h)
  replace Sb := hid (Sb.out.below h)
  replace Sx := hid (Sx.out.below h)
  replace Sy := hid (Sy.out.below h)
  replace Sz := hid (Sz.out.below h)
  replace HB := hid (HB.out.trans (h.mono HB.out.size))
  clear h
  go_wp2_with fail
  refine (bridge_eq (la := [(0, 10), (20, 30)]) (R := [(0, 10), (20, 30)]) Lv IA (by omega) rfl Sa.out).mono ?_
  rintro e u10 ⟨v, rfl, ho, h⟩
  obtain ⟨Av, cv, rfl, hcv, _, Sv⟩ := ho.view
  clear ho
  simp only [List.length_cons, List.length_nil, Nat.zero_add] at hcv Sv ⊢
  replace Sv := hid Sv
  replace Sa := hid (Sa.out.below h)
  replace Sb := hid (Sb.out.below h)
  replace Sx := hid (Sx.out.below h)
  replace Sy := hid (Sy.out.below h)
  replace Sz := hid (Sz.out.below h)
  replace Su := hid (Su.out.below h)
  replace HB := hid (HB.out.trans (h.mono HB.out.size))
  clear h
  go_wp2_with fail
  refine (to_any 5 8 _).mono ?_
  rintro e u11 ⟨rfl, h⟩
  replace Sa := hid (Sa.out.below h)
  replace Sb := hid (Sb.out.below h)
  replace Sx := hid (Sx.out.below h)
  replace Sy := hid (Sy.out.below h)
  replace Sz := hid (Sz.out.below h)
  replace Su := hid (Su.out.below h)
  replace Sv := hid (Sv.out.below h)
  replace HB := hid (HB.out.trans (h.mono HB.out.size))
  clear h
  go_wp2_with fail
  refine (to_any 3 5 _).mono ?_
  rintro e u12 ⟨rfl, h⟩
  replace Sa := hid (Sa.out.below h)
  replace Sb := hid (Sb.out.below h)
  replace Sx := hid (Sx.out.below h)
  replace Sy := hid (Sy.out.below h)
  replace Sz := hid (Sz.out.below h)
  replace Su := hid (Su.out.below h)
  replace Sv := hid (Sv.out.below h)
  replace HB := hid (HB.out.trans (h.mono HB.out.size))
  clear h
  go_wp2_with fail
  refine (to_any 9 9 _).mono ?_
  rintro e u13 ⟨rfl, h⟩
  replace Sa := hid (Sa.out.below h)
  replace Sb := hid (Sb.out.below h)
  replace Sx := hid (Sx.out.below h)
  replace Sy := hid (Sy.out.below h)
  replace Sz := hid (Sz.out.below h)
  replace Su := hid (Su.out.below h)
  replace Sv := hid (Sv.out.below h)
  replace HB := hid (HB.out.trans (h.mono HB.out.size))
  clear h
  go_wp2_with fail
  refine (set_any _ _ _ _).mono ?_
  rintro e _ ⟨rfl, rfl⟩
  have h : Below u13.heap.size u13 (u13.alloc (.cells #[.int .i64 5, .int .i64 8, .int .i64 3, .int .i64 5, .int .i64 9, .int .i64 9] 34)) := (Below.refl _ _).alloc (Nat.le_refl _) _
  have Sm : Hid (SpH (u13.alloc (.cells #[.int .i64 5, .int .i64 8, .int .i64 3, .int .i64 5, .int .i64 9, .int .i64 9] 34)) (some ⟨u13.heap.size, 0, none⟩) [(5, 8), (3, 5), (9, 9)]) := Blk.sp (l := [(5, 8), (3, 5), (9, 9)]) (Blk.new u13 34 _)
  generalize u13.alloc (.cells #[.int .i64 5, .int .i64 8, .int .i64 3, .int .i64 5, .int .i64 9, .int .i64 9] 34) = u14 at *
  replace Sa := hid (Sa.out.below h)
  replace Sb := hid (Sb.out.below h)
  replace Sx := hid (Sx.out.below h)
  replace Sy := hid (Sy.out.below h)
  replace Sz := hid (Sz.out.below h)
  replace Su := hid (Su.out.below h)
  replace Sv := hid (Sv.out.below h)
  replace HB := hid (HB.out.trans (h.mono HB.out.size))
  clear h
  go_wp2_with fail
  refine (make_eq (la := [(5, 8), (3, 5), (9, 9)]) (R := [(3, 8)]) Lw Vm (by decide) rfl Sm.out).mono ?_
  rintro e u15 ⟨v, rfl, ho, h⟩
  obtain ⟨Aw, cw, rfl, hcw, _, Sw⟩ := ho.view
  clear ho
  simp only [List.length_cons, List.length_nil, Nat.zero_add] at hcw Sw ⊢
  replace Sw := hid Sw
  replace Sa := hid (Sa.out.below h)
  replace Sb := hid (Sb.out.below h)
  replace Sx := hid (Sx.out.below h)
  replace Sy := hid (Sy.out.below h)
  replace Sz := hid (Sz.out.below h)
  replace Su := hid (Su.out.below h)
  replace Sv := hid (Sv.out.below h)
  replace Sm := hid (Sm.out.below h)
  replace HB := hid (HB.out.trans (h.mono HB.out.size))
  clear h
  clear Sm
  clear Sb
  go_wp2_with fail
  refine (nth_eq (la := [(0, 10), (20, 30)]) (d := 10) (r := 20) (b := true) rfl rfl IA (by omega) (by omega) rfl Sa.out).mono ?_
  rintro e u16 ⟨rfl, h⟩
  replace Sa := hid (Sa.out.below h)
  replace Sx := hid (Sx.out.below h)
  replace Sy := hid (Sy.out.below h)
  replace Sz := hid (Sz.out.below h)
  replace Su := hid (Su.out.below h)
  replace Sv := hid (Sv.out.below h)
  replace Sw := hid (Sw.out.below h)
  replace HB := hid (HB.out.trans (h.mono HB.out.size))
  clear h
  go_wp2_with fail
  refine (nth_eq (la := [(0, 10), (20, 30)]) (d := 20) (r := 0) (b := false) rfl rfl IA (by omega) (by omega) rfl Sa.out).mono ?_
  rintro e u17 ⟨rfl, h⟩
  replace Sa := hid (Sa.out.below h)
  replace Sx := hid (Sx.out.below h)
  replace Sy := hid (Sy.out.below h)
  replace Sz := hid (Sz.out.below h)
  replace Su := hid (Su.out.below h)
  replace Sv := hid (Sv.out.below h)
  replace Sw := hid (Sw.out.below h)
  replace HB := hid (HB.out.trans (h.mono HB.out.size))
  clear h
  go_wp2_with fail
  refine (days_eq (la := [(0, 10), (20, 30)]) (r := 20) rfl IA rfl Sa.out).mono ?_
  rintro e u18 ⟨rfl, h⟩
  replace Sa := hid (Sa.out.below h)
  replace Sx := hid (Sx.out.below h)
  replace Sy := hid (Sy.out.below h)
  replace Sz := hid (Sz.out.below h)
  replace Su := hid (Su.out.below h)
  replace Sv := hid (Sv.out.below h)
  replace Sw := hid (Sw.out.below h)
  replace HB := hid (HB.out.trans (h.mono HB.out.size))
  clear h
  go_wp2_with fail
  refine (before_eq (la := [(0, 10), (20, 30)]) (d := 25) (r := 15) rfl IA rfl (by decide) Sa.out).mono ?_
  rintro e u19 ⟨rfl, h⟩
  replace Sa := hid (Sa.out.below h)
  replace Sx := hid (Sx.out.below h)
  replace Sy := hid (Sy.out.below h)
  replace Sz := hid (Sz.out.below h)
  replace Su := hid (Su.out.below h)
  replace Sv := hid (Sv.out.below h)
  replace Sw := hid (Sw.out.below h)
  replace HB := hid (HB.out.trans (h.mono HB.out.size))
  clear h
  go_wp2_with fail
  refine (to_any 0 10 _).mono ?_
  rintro e u20 ⟨rfl, h⟩
  replace Sa := hid (Sa.out.below h)
  replace Sx := hid (Sx.out.below h)
  replace Sy := hid (Sy.out.below h)
  replace Sz := hid (Sz.out.below h)
  replace Su := hid (Su.out.below h)
  replace Sv := hid (Sv.out.below h)
  replace Sw := hid (Sw.out.below h)
  replace HB := hid (HB.out.trans (h.mono HB.out.size))
  clear h
  go_wp2_with fail
  refine (to_any 10 20 _).mono ?_
  rintro e u21 ⟨rfl, h⟩
  replace Sa := hid (Sa.out.below h)
  replace Sx := hid (Sx.out.below h)
  replace Sy := hid (Sy.out.below h)
  replace Sz := hid (Sz.out.below h)
  replace Su := hid (Su.out.below h)
  replace Sv := hid (Sv.out.below h)
  replace Sw := hid (Sw.out.below h)
  replace HB := hid (HB.out.trans (h.mono HB.out.size))
  clear h
  go_wp2_with fail
  refine (set_any _ _ _ _).mono ?_
  rintro e _ ⟨rfl, rfl⟩
  have h : Below u21.heap.size u21 (u21.alloc (.cells #[.int .i64 0, .int .i64 10, .int .i64 10, .int .i64 20] 34)) := (Below.refl _ _).alloc (Nat.le_refl _) _
  have St : Hid (SpH (u21.alloc (.cells #[.int .i64 0, .int .i64 10, .int .i64 10, .int .i64 20] 34)) (some ⟨u21.heap.size, 0, none⟩) [(0, 10), (10, 20)]) := Blk.sp (l := [(0, 10), (10, 20)]) (Blk.new u21 34 _)
  generalize u21.alloc (.cells #[.int .i64 0, .int .i64 10, .int .i64 10, .int .i64 20] 34) = u22 at *
  replace Sa := hid (Sa.out.below h)
  replace Sx := hid (Sx.out.below h)
  replace Sy := hid (Sy.out.below h)
  replace Sz := hid (Sz.out.below h)
  replace Su := hid (Su.out.below h)
  replace Sv := hid (Sv.out.below h)
  replace Sw := hid (Sw.out.below h)
  replace HB := hid (HB.out.trans (h.mono HB.out.size))
  clear h
  go_wp2_with fail
  refine (valid_eq (la := [(0, 10), (10, 20)]) (r := false) Vt rfl (by decide) St.out).mono ?_
  rintro e u23 ⟨rfl, h⟩
  replace Sa := hid (Sa.out.below h)
  replace Sx := hid (Sx.out.below h)
  replace Sy := hid (Sy.out.below h)
  replace Sz := hid (Sz.out.below h)
  replace Su := hid (Su.out.below h)
  replace Sv := hid (Sv.out.below h)
  replace Sw := hid (Sw.out.below h)
  replace St := hid (St.out.below h)
  replace HB := hid (HB.out.trans (h.mono HB.out.size))
  clear h
  clear St
  go_wp2_with fail
  refine (to_any 0 30 _).mono ?_
  rintro e u24 ⟨rfl, h⟩
  replace Sa := hid (Sa.out.below h)
  replace Sx := hid (Sx.out.below h)
  replace Sy := hid (Sy.out.below h)
  replace Sz := hid (Sz.out.below h)
  replace Su := hid (Su.out.below h)
  replace Sv := hid (Sv.out.below h)
  replace Sw := hid (Sw.out.below h)
  replace HB := hid (HB.out.trans (h.mono HB.out.size))
  clear h
  go_wp2_with fail
  refine (set_any _ _ _ _).mono ?_
  rintro e _ ⟨rfl, rfl⟩
  have h : Below u24.heap.size u24 (u24.alloc (.cells #[.int .i64 0, .int .i64 30] 34)) := (Below.refl _ _).alloc (Nat.le_refl _) _
  have Sqx : Hid (SpH (u24.alloc (.cells #[.int .i64 0, .int .i64 30] 34)) (some ⟨u24.heap.size, 0, none⟩) [(0, 30)]) := Blk.sp (l := [(0, 30)]) (Blk.new u24 34 _)
  generalize u24.alloc (.cells #[.int .i64 0, .int .i64 30] 34) = u25 at *
  replace Sa := hid (Sa.out.below h)
  replace Sx := hid (Sx.out.below h)
  replace Sy := hid (Sy.out.below h)
  replace Sz := hid (Sz.out.below h)
  replace Su := hid (Su.out.below h)
  replace Sv := hid (Sv.out.below h)
  replace Sw := hid (Sw.out.below h)
  replace HB := hid (HB.out.trans (h.mono HB.out.size))
  clear h
  go_wp2_with fail
  refine (same_eq (la := [(0, 30)]) (lb := [(0, 30)]) (r := true) (decide_eq_true rfl) rfl rfl (by decide) (by decide) Sx.out Sqx.out).mono ?_
  rintro e u26 ⟨rfl, h⟩
  replace Sa := hid (Sa.out.below h)
  replace Sx := hid (Sx.out.below h)
  replace Sy := hid (Sy.out.below h)
  replace Sz := hid (Sz.out.below h)
  replace Su := hid (Su.out.below h)
  replace Sv := hid (Sv.out.below h)
  replace Sw := hid (Sw.out.below h)
  replace Sqx := hid (Sqx.out.below h)
  replace HB := hid (HB.out.trans (h.mono HB.out.size))
  clear h
  clear Sqx
  clear Sx
  go_wp2_with fail
  refine (to_any 5 10 _).mono ?_
  rintro e u27 ⟨rfl, h⟩
  replace Sa := hid (Sa.out.below h)
  replace Sy := hid (Sy.out.below h)
  replace Sz := hid (Sz.out.below h)
  replace Su := hid (Su.out.below h)
  replace Sv := hid (Sv.out.below h)
  replace Sw := hid (Sw.out.below h)
  replace HB := hid (HB.out.trans (h.mono HB.out.size))
  clear h
  go_wp2_with fail
  refine (to_any 20 25 _).mono ?_
  rintro e u28 ⟨rfl, h⟩
  replace Sa := hid (Sa.out.below h)
  replace Sy := hid (Sy.out.below h)
  replace Sz := hid (Sz.out.below h)
  replace Su := hid (Su.out.below h)
  replace Sv := hid (Sv.out.below h)
  replace Sw := hid (Sw.out.below h)
  replace HB := hid (HB.out.trans (h.mono HB.out.size))
  clear h
  go_wp2_with fail
  refine (set_any _ _ _ _).mono ?_
  rintro e _ ⟨rfl, rfl⟩
  have h : Below u28.heap.size u28 (u28.alloc (.cells #[.int .i64 5, .int .i64 10, .int .i64 20, .int .i64 25] 34)) := (Below.refl _ _).alloc (Nat.le_refl _) _
  have Sqy : Hid (SpH (u28.alloc (.cells #[.int .i64 5, .int .i64 10, .int .i64 20, .int .i64 25] 34)) (some ⟨u28.heap.size, 0, none⟩) [(5, 10), (20, 25)]) := Blk.sp (l := [(5, 10), (20, 25)]) (Blk.new u28 34 _)
  generalize u28.alloc (.cells #[.int .i64 5, .int .i64 10, .int .i64 20, .int .i64 25] 34) = u29 at *
  replace Sa := hid (Sa.out.below h)
  replace Sy := hid (Sy.out.below h)
  replace Sz := hid (Sz.out.below h)
  replace Su := hid (Su.out.below h)
  replace Sv := hid (Sv.out.below h)
  replace Sw := hid (Sw.out.below h)
  replace HB := hid (HB.out.trans (h.mono HB.out.size))
  clear h
  go_wp2_with fail
  refine (same_eq (la := [(5, 10), (20, 25)]) (lb := [(5, 10), (20, 25)]) (r := true) (decide_eq_true rfl) rfl rfl (by decide) (by decide) Sy.out Sqy.out).mono ?_
  rintro e u30 ⟨rfl, h⟩
  replace Sa := hid (Sa.out.below h)
  replace Sy := hid (Sy.out.below h)
  replace Sz := hid (Sz.out.below h)
  replace Su := hid (Su.out.below h)
  replace Sv := hid (Sv.out.below h)
  replace Sw := hid (Sw.out.below h)
  replace Sqy := hid (Sqy.out.below h)
  replace HB := hid (HB.out.trans (h.mono HB.out.size))
  clear h
  clear Sqy
  clear Sy
  go_wp2_with fail
  refine (to_any 0 5 _).mono ?_
  rintro e u31 ⟨rfl, h⟩
  replace Sa := hid (Sa.out.below h)
  replace Sz := hid (Sz.out.below h)
  replace Su := hid (Su.out.below h)
  replace Sv := hid (Sv.out.below h)
  replace Sw := hid (Sw.out.below h)
  replace HB := hid (HB.out.trans (h.mono HB.out.size))
  clear h
  go_wp2_with fail
  refine (to_any 25 30 _).mono ?_
  rintro e u32 ⟨rfl, h⟩
  replace Sa := hid (Sa.out.below h)
  replace Sz := hid (Sz.out.below h)
  replace Su := hid (Su.out.below h)
  replace Sv := hid (Sv.out.below h)
  replace Sw := hid (Sw.out.below h)
  replace HB := hid (HB.out.trans (h.mono HB.out.size))
  clear h
  go_wp2_with fail
  refine (set_any _ _ _ _).mono ?_
  rintro e _ ⟨rfl, rfl⟩
  have h : Below u32.heap.size u32 (u32.alloc (.cells #[.int .i64 0, .int .i64 5, .int .i64 25, .int .i64 30] 34)) := (Below.refl _ _).alloc (Nat.le_refl _) _
  have Sqz : Hid (SpH (u32.alloc (.cells #[.int .i64 0, .int .i64 5, .int .i64 25, .int .i64 30] 34)) (some ⟨u32.heap.size, 0, none⟩) [(0, 5), (25, 30)]) := Blk.sp (l := [(0, 5), (25, 30)]) (Blk.new u32 34 _)
  generalize u32.alloc (.cells #[.int .i64 0, .int .i64 5, .int .i64 25, .int .i64 30] 34) = u33 at *
  replace Sa := hid (Sa.out.below h)
  replace Sz := hid (Sz.out.below h)
  replace Su := hid (Su.out.below h)
  replace Sv := hid (Sv.out.below h)
  replace Sw := hid (Sw.out.below h)
  replace HB := hid (HB.out.trans (h.mono HB.out.size))
  clear h
  go_wp2_with fail
  refine (same_eq (la := [(0, 5), (25, 30)]) (lb := [(0, 5), (25, 30)]) (r := true) (decide_eq_true rfl) rfl rfl (by decide) (by decide) Sz.out Sqz.out).mono ?_
  rintro e u34 ⟨rfl, h⟩
  replace Sa := hid (Sa.out.below h)
  replace Sz := hid (Sz.out.below h)
  replace Su := hid (Su.out.below h)
  replace Sv := hid (Sv.out.below h)
  replace Sw := hid (Sw.out.below h)
  replace Sqz := hid (Sqz.out.below h)
  replace HB := hid (HB.out.trans (h.mono HB.out.size))
  clear h
  clear Sqz
  clear Sz
  go_wp2_with fail
  refine (to_any 0 30 _).mono ?_
  rintro e u35 ⟨rfl, h⟩
  replace Sa := hid (Sa.out.below h)
  replace Su := hid (Su.out.below h)
  replace Sv := hid (Sv.out.below h)
  replace Sw := hid (Sw.out.below h)
  replace HB := hid (HB.out.trans (h.mono HB.out.size))
  clear h
  go_wp2_with fail
  refine (set_any _ _ _ _).mono ?_
  rintro e _ ⟨rfl, rfl⟩
  have h : Below u35.heap.size u35 (u35.alloc (.cells #[.int .i64 0, .int .i64 30] 34)) := (Below.refl _ _).alloc (Nat.le_refl _) _
  have Squ : Hid (SpH (u35.alloc (.cells #[.int .i64 0, .int .i64 30] 34)) (some ⟨u35.heap.size, 0, none⟩) [(0, 30)]) := Blk.sp (l := [(0, 30)]) (Blk.new u35 34 _)
  generalize u35.alloc (.cells #[.int .i64 0, .int .i64 30] 34) = u36 at *
  replace Sa := hid (Sa.out.below h)
  replace Su := hid (Su.out.below h)
  replace Sv := hid (Sv.out.below h)
  replace Sw := hid (Sw.out.below h)
  replace HB := hid (HB.out.trans (h.mono HB.out.size))
  clear h
  go_wp2_with fail
  refine (same_eq (la := [(0, 30)]) (lb := [(0, 30)]) (r := true) (decide_eq_true rfl) rfl rfl (by decide) (by decide) Su.out Squ.out).mono ?_
  rintro e u37 ⟨rfl, h⟩
  replace Sa := hid (Sa.out.below h)
  replace Su := hid (Su.out.below h)
  replace Sv := hid (Sv.out.below h)
  replace Sw := hid (Sw.out.below h)
  replace Squ := hid (Squ.out.below h)
  replace HB := hid (HB.out.trans (h.mono HB.out.size))
  clear h
  clear Squ
  clear Su
  go_wp2_with fail
  refine (same_eq (la := [(0, 10), (20, 30)]) (lb := [(0, 10), (20, 30)]) (r := true) (decide_eq_true rfl) rfl rfl (by decide) (by decide) Sv.out Sa.out).mono ?_
  rintro e u38 ⟨rfl, h⟩
  replace Sa := hid (Sa.out.below h)
  replace Sv := hid (Sv.out.below h)
  replace Sw := hid (Sw.out.below h)
  replace HB := hid (HB.out.trans (h.mono HB.out.size))
  clear h
  go_wp2_with fail
  refine (to_any 3 8 _).mono ?_
  rintro e u39 ⟨rfl, h⟩
  replace Sa := hid (Sa.out.below h)
  replace Sv := hid (Sv.out.below h)
  replace Sw := hid (Sw.out.below h)
  replace HB := hid (HB.out.trans (h.mono HB.out.size))
  clear h
  go_wp2_with fail
  refine (set_any _ _ _ _).mono ?_
  rintro e _ ⟨rfl, rfl⟩
  have h : Below u39.heap.size u39 (u39.alloc (.cells #[.int .i64 3, .int .i64 8] 34)) := (Below.refl _ _).alloc (Nat.le_refl _) _
  have Sqw : Hid (SpH (u39.alloc (.cells #[.int .i64 3, .int .i64 8] 34)) (some ⟨u39.heap.size, 0, none⟩) [(3, 8)]) := Blk.sp (l := [(3, 8)]) (Blk.new u39 34 _)
  generalize u39.alloc (.cells #[.int .i64 3, .int .i64 8] 34) = u40 at *
  replace Sa := hid (Sa.out.below h)
  replace Sv := hid (Sv.out.below h)
  replace Sw := hid (Sw.out.below h)
  replace HB := hid (HB.out.trans (h.mono HB.out.size))
  clear h
  go_wp2_with fail
  refine (same_eq (la := [(3, 8)]) (lb := [(3, 8)]) (r := true) (decide_eq_true rfl) rfl rfl (by decide) (by decide) Sw.out Sqw.out).mono ?_
  rintro e u41 ⟨rfl, h⟩
  replace Sa := hid (Sa.out.below h)
  replace Sv := hid (Sv.out.below h)
  replace Sw := hid (Sw.out.below h)
  replace Sqw := hid (Sqw.out.below h)
  replace HB := hid (HB.out.trans (h.mono HB.out.size))
  clear h
  clear Sqw
  clear Sw
  go_wp2
  go_ret
  exact ⟨rfl, HB.out⟩
end Go.Proofs.Ytpafnakepgjmnaa
