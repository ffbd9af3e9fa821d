/- SpanAlgebra's function returns true. -/
import Derived.Test.YtpafnakepgjmnaaVe0
namespace Go.Proofs.Ytpafnakepgjmnaa
open Go.RowKit Go.Lib Go.Shelf

theorem in_eq {l : List Sp} {A : Option Addr} {n c : Nat} {d : Int} {w : World} {r : Bool} (hr : memB l d = r) (hn : l.length = n) (hm : n ≤ 4611686018427387904) (hA : SpH w A l) :
    Calls Try.prog 20 #[.slice A n c, .int .i64 d] w fun e w' => e = .returned (.bool r) ∧ w' = w := by
  rw [← hr]; exact in_any l A n c d w hn hm hA

set_option maxRecDepth 100000 in
set_option maxHeartbeats 8000000 in
theorem algebra_law (z0 z1 : List Int) (day : Int) (X0 X1 : Option Addr) (n0 n1 k0 k1 : Nat) (w : World) (b0 : n0 ≤ 4611686018427387904) (b1 : n1 ≤ 4611686018427387904) (h0 : U16H w X0 n0 z0) (h1 : U16H w X1 n1 z1) (_hd1 : -9223372036854775808 ≤ day) (_hd2 : day ≤ 9223372036854775807) :
    Calls Try.prog 5 #[.slice X0 n0 k0, .slice X1 n1 k1, .int .i64 day] w fun e w' => e = .returned (.bool true) ∧ Below w.heap.size w w' := by
  obtain ⟨i0, hi, hz0, hz1, hz2⟩ := info_parts info_int
  have HI := hid hi
  have HZ := hid hz0
  have HZ1 := hid hz1
  have HZ2 := hid hz2
  have HB := hid (Below.refl w.heap.size w)
  have U0 := hid h0
  have U1 := hid h1
  clear hi hz0 hz1 hz2 h0 h1
  go_enter Try.func5, Try.ntmps5
  go_wp2_with fail
  refine (awake_any _).mono ?_
  rintro e u1 ⟨rfl, h⟩
  replace HB := hid (HB.out.trans (h.mono HB.out.size))
  clear h
  go_wp2_with fail
  refine (built_any z0 X0 n0 k0 _ b0 (U0.out.below HB.out)).mono ?_
  rintro e u2 ⟨v, a, rfl, Ia, la, ho, h⟩
  obtain ⟨Aa, ca, rfl, hca, _, Sa⟩ := ho.view
  clear ho
  replace Sa := hid Sa
  replace Ia := hid Ia
  replace HB := hid (HB.out.trans (h.mono HB.out.size))
  clear h
  go_wp2_with fail
  refine (built_any z1 X1 n1 k1 _ b1 (U1.out.below HB.out)).mono ?_
  rintro e u3 ⟨v, b, rfl, Ib, lb, ho, h⟩
  obtain ⟨Ab, cb, rfl, hcb, _, Sb⟩ := ho.view
  clear ho
  replace Sb := hid Sb
  replace Ib := hid Ib
  replace Sa := hid (Sa.out.below h)
  replace HB := hid (HB.out.trans (h.mono HB.out.size))
  clear h
  obtain ⟨u, Hu⟩ : ∃ r, Hid (combL orB a b = r) := ⟨_, rfl⟩
  have Iu : Hid (IsSet u) := by rw [← Hu.out]; exact norm_set _
  have lu := Iu.out.len_bd
  go_wp2_with fail
  refine (union_eq (la := a) (lb := b) (R := u) Hu.out Ia.out Ib.out rfl rfl Sa.out Sb.out).mono ?_
  rintro e u4 ⟨v, rfl, ho, h⟩
  obtain ⟨Au, cu, rfl, hcu, _, Su⟩ := ho.view
  clear ho
  replace Su := hid Su
  replace Sa := hid (Sa.out.below h)
  replace Sb := hid (Sb.out.below h)
  replace HB := hid (HB.out.trans (h.mono HB.out.size))
  clear h
  obtain ⟨v, Hv⟩ : ∃ r, Hid (combL andB a b = r) := ⟨_, rfl⟩
  have Iv : Hid (IsSet v) := by rw [← Hv.out]; exact norm_set _
  have lv := Iv.out.len_bd
  go_wp2_with fail
  refine (meet_eq (la := a) (lb := b) (R := v) Hv.out Ia.out Ib.out rfl rfl Sa.out Sb.out).mono ?_
  rintro e u5 ⟨v, rfl, ho, h⟩
  obtain ⟨Av, cv, rfl, hcv, _, Sv⟩ := ho.view
  clear ho
  replace Sv := hid Sv
  replace Sa := hid (Sa.out.below h)
  replace Sb := hid (Sb.out.below h)
  replace Su := hid (Su.out.below h)
  replace HB := hid (HB.out.trans (h.mono HB.out.size))
  clear h
  obtain ⟨x, Hx⟩ : ∃ r, Hid (combL butB a b = r) := ⟨_, rfl⟩
  have Ix : Hid (IsSet x) := by rw [← Hx.out]; exact norm_set _
  have lx := Ix.out.len_bd
  go_wp2_with fail
  refine (minus_eq (la := a) (lb := b) (R := x) Hx.out Ia.out Ib.out rfl rfl Sa.out Sb.out).mono ?_
  rintro e u6 ⟨v, rfl, ho, h⟩
  obtain ⟨Ax, cx, rfl, hcx, _, Sx⟩ := ho.view
  clear ho
  replace Sx := hid Sx
  replace Sa := hid (Sa.out.below h)
  replace Sb := hid (Sb.out.below h)
  replace Su := hid (Su.out.below h)
  replace Sv := hid (Sv.out.below h)
  replace HB := hid (HB.out.trans (h.mono HB.out.size))
  clear h
  go_wp2_with fail
  refine (valid_eq (la := u) (r := true) (validB_true.2 Iu.out) rfl (by omega) Su.out).mono ?_
  rintro e u7 ⟨rfl, h⟩
  replace Sa := hid (Sa.out.below h)
  replace Sb := hid (Sb.out.below h)
  replace Su := hid (Su.out.below h)
  replace Sv := hid (Sv.out.below h)
  replace Sx := hid (Sx.out.below h)
  replace HB := hid (HB.out.trans (h.mono HB.out.size))
  clear h
  go_wp2_with fail
  refine (valid_eq (la := v) (r := true) (validB_true.2 Iv.out) rfl (by omega) Sv.out).mono ?_
  rintro e u8 ⟨rfl, h⟩
  replace Sa := hid (Sa.out.below h)
  replace Sb := hid (Sb.out.below h)
  replace Su := hid (Su.out.below h)
  replace Sv := hid (Sv.out.below h)
  replace Sx := hid (Sx.out.below h)
  replace HB := hid (HB.out.trans (h.mono HB.out.size))
  clear h
  go_wp2_with fail
  refine (valid_eq (la := x) (r := true) (validB_true.2 Ix.out) rfl (by omega) Sx.out).mono ?_
  rintro e u9 ⟨rfl, h⟩
  replace Sa := hid (Sa.out.below h)
  replace Sb := hid (Sb.out.below h)
  replace Su := hid (Su.out.below h)
  replace Sv := hid (Sv.out.below h)
  replace Sx := hid (Sx.out.below h)
  replace HB := hid (HB.out.trans (h.mono HB.out.size))
  clear h
  obtain ⟨ac, Hac⟩ : ∃ m, Hid (a.length = m) := ⟨_, rfl⟩
  obtain ⟨bc, Hbc⟩ : ∃ m, Hid (b.length = m) := ⟨_, rfl⟩
  obtain ⟨uc, Huc⟩ : ∃ m, Hid (u.length = m) := ⟨_, rfl⟩
  obtain ⟨vc, Hvc⟩ : ∃ m, Hid (v.length = m) := ⟨_, rfl⟩
  obtain ⟨xc, Hxc⟩ : ∃ m, Hid (x.length = m) := ⟨_, rfl⟩
  rw [Hac.out] at hca la ⊢
  rw [Hbc.out] at hcb lb ⊢
  rw [Huc.out] at hcu lu ⊢
  rw [Hvc.out] at hcv lv ⊢
  rw [Hxc.out] at hcx lx ⊢
  have HU : Hid (∀ d, memB u d = (memB a d || memB b d)) := fun d => by rw [← Hu.out]; exact comb_mem rfl Ia.out Ib.out d
  have HV : Hid (∀ d, memB v d = (memB a d && memB b d)) := fun d => by rw [← Hv.out]; exact comb_mem rfl Ia.out Ib.out d
  have HX : Hid (∀ d, memB x d = (memB a d && !memB b d)) := fun d => by rw [← Hx.out]; exact comb_mem rfl Ia.out Ib.out d
  go_wp2
  generalize u9 = W0 at *
  have HG : Hid (Blk ((W0.alloc (.cells #[.int .i64 day] 3)).alloc (.cells #[.slice Aa ac ca, .slice Ab bc cb] 22)) (W0.heap.size + 1) 22 #[.slice Aa ac ca, .slice Ab bc cb]) := by
    have := Blk.new (W0.alloc (.cells #[.int .i64 day] 3)) 22 #[.slice Aa ac ca, .slice Ab bc cb]
    have e2 : (W0.alloc (.cells #[.int .i64 day] 3)).heap.size = W0.heap.size + 1 := by simp
    rw [e2] at this
    exact this
  have HO : Hid (OwnI ((W0.alloc (.cells #[.int .i64 day] 3)).alloc (.cells #[.slice Aa ac ca, .slice Ab bc cb] 22)) W0.heap.size (.slice (some ⟨W0.heap.size, 0, none⟩) 1 1) [day]) := (OwnI.lit W0 (Nat.le_refl _) day).below ((Below.refl _ _).alloc (Nat.le_refl _) _)
  have HW : Hid (Below W0.heap.size W0 ((W0.alloc (.cells #[.int .i64 day] 3)).alloc (.cells #[.slice Aa ac ca, .slice Ab bc cb] 22))) := ((Below.refl W0.heap.size W0).alloc (Nat.le_refl _) _).alloc (by simp) _
  generalize ((W0.alloc (.cells #[.int .i64 day] 3)).alloc (.cells #[.slice Aa ac ca, .slice Ab bc cb] 22)) = W1 at *
  go_loopw [15, 75] (fun v i wr => ∃ (k : Nat) (L : List Int), k ≤ 2 ∧ i = .int .i64 k ∧ L.length ≤ 1 + 240 * k ∧ OwnI wr W0.heap.size v L ∧ Blk wr (W0.heap.size + 1) 22 #[.slice Aa ac ca, .slice Ab bc cb] ∧ Below W0.heap.size W0 wr) (fun _ i _ => 2 - (intOf i).toNat)
  case atStart => exact ⟨0, [day], by omega, rfl, by simp, HO.out, HG.out, HW.out⟩
  case round =>
    clear HO HG HW
    obtain ⟨k, L, hk, rfl, hL, ho, hb, hw⟩ := hrel
    obtain ⟨AL, cL, rfl, hcl⟩ := ho.view
    have HVW := hid hcl
    have HO := hid ho
    have HG := hid hb
    have HW := hid hw
    clear ho
    by_cases hlt : k < 2
    · obtain ⟨l, Al, cl, n, hcell, Hn, Il, Sl, hn60⟩ : ∃ (l : List Sp) (Al : Option Addr) (cl n : Nat), wr.cell? ⟨W0.heap.size + 1, k, none⟩ = some (.slice Al n cl) ∧ Hid (l.length = n) ∧ Hid (IsSet l) ∧ Hid (SpH W0 Al l) ∧ n ≤ 60 := by
        rcases (by omega : k = 0 ∨ k = 1) with rfl | rfl
        · exact ⟨a, Aa, ca, ac, (hb.cell 0).trans rfl, Hac, Ia, Sa, la⟩
        · exact ⟨b, Ab, cb, bc, (hb.cell 1).trans rfl, Hbc, Ib, Sb, lb⟩
      have hlt' : (k : Int) < 2 := by omega
      have hk0 : ¬ ((k : Int) < 0) := by omega
      clear hb hw hcl
      go_wp2
      have HLk := hid hL
      go_loopw [15, 81] (fun v i ws => ∃ (j : Nat) (L : List Int), j ≤ n ∧ i = .int .i64 j ∧ L.length ≤ 1 + 240 * k + 4 * j ∧ OwnI ws W0.heap.size v L ∧ Blk ws (W0.heap.size + 1) 22 #[.slice Aa ac ca, .slice Ab bc cb] ∧ Below W0.heap.size W0 ws) (fun _ i _ => n - (intOf i).toNat)
      case atStart => exact ⟨0, L, by omega, rfl, by have := HLk.out; omega, HO.out, HG.out, HW.out⟩
      case round =>
        clear HO HG HW HLk hL hcell hlt' hk0
        obtain ⟨j, L, hj, rfl, hL, ho, hb, hw⟩ := hrel
        obtain ⟨AL, cL, rfl, hcl⟩ := ho.view
        have HO := hid ho
        have HG := hid hb
        have HW := hid hw
        clear ho hb hcl
        by_cases hjn : j < n
        · obtain ⟨Bl, Ol, e, hBl, hc⟩ := (Sl.out.below hw).at_ Hn.out (by omega)
          subst e
          obtain ⟨x, hx⟩ : ∃ x, fr l j = x := ⟨_, rfl⟩
          obtain ⟨y, hy⟩ : ∃ y, tt l j = y := ⟨_, rfl⟩
          have c0 := (hc j hjn).1
          have c1 := (hc j hjn).2
          have hx2 := Il.out.at_ (i := j) (by rw [Hn.out]; exact hjn)
          rw [hx] at c0 hx2
          rw [hy] at c1 hx2
          obtain ⟨q1, q2, q3, _⟩ := hx2
          have q4 : y ≤ 65536 := q3
          have q5 : x ≤ 65536 := by omega
          have q6 : 0 ≤ y := by omega
          have m63 : L.length + 4 ≤ maxLen := by unfold maxLen; omega
          have mby : (L.length + 4) * 8 ≤ 140737488355328 := by omega
          have hbase : W0.heap.size ≤ ((wr.alloc (.cells #[.int .i64 x, .int .i64 y] 34)).alloc (.cells #[.int .i64 (x - 1), .int .i64 x, .int .i64 (y - 1), .int .i64 y] 3)).heap.size := by have := hw.size; simp; omega
          have HOO : Hid (((wr.alloc (.cells #[.int .i64 x, .int .i64 y] 34)).alloc (.cells #[.int .i64 (x - 1), .int .i64 x, .int .i64 (y - 1), .int .i64 y] 3)).ownsRow W0.heap.size 3 1 (.slice AL L.length cL) L.length (intsOf L)) := (World.ownsRow.alloc HO.out _).alloc _
          have hnews := cells_new (w := wr.alloc (.cells #[.int .i64 x, .int .i64 y] 34)) (B := wr.heap.size + 1) (by simp) 3 #[.int .i64 (x - 1), .int .i64 x, .int .i64 (y - 1), .int .i64 y]
          have hone : ∀ u ∈ [Value.int .i64 (x - 1), Value.int .i64 x, Value.int .i64 (y - 1), Value.int .i64 y], u.oneCell' = true := intsOf_one (L := [x - 1, x, y - 1, y])
          clear hx hy hc q3
          go_wp2_with (at_builtin; refine wpList_append_own _ rfl _ _ 31 rfl W0.heap.size 3 i0 (.int .i64 0) 1 8 Try.underlying31 HI.out HZ.out HZ1.out HZ2.out rfl (by decide) _ _ _ rfl HOO.out ⟨wr.heap.size + 1, 0, none⟩ 4 4 [.int .i64 (x - 1), .int .i64 x, .int .i64 (y - 1), .int .i64 y] rfl rfl hnews hone m63 mby hbase ?_; intro v' w2 hown1 hgrow1 _)
          have HO2 : Hid (OwnI w2 W0.heap.size v' (L ++ [x - 1, x, y - 1, y])) := by
            show w2.ownsRow _ _ _ _ _ _
            rw [intsOf_append, List.length_append]
            exact hown1
          have HW1 := ((hw.alloc hw.size (.cells #[.int .i64 x, .int .i64 y] 34)).alloc (by have := hw.size; simp; omega) (.cells #[.int .i64 (x - 1), .int .i64 x, .int .i64 (y - 1), .int .i64 y] 3))
          have HW2 : Hid (Below W0.heap.size W0 w2) := HW1.grown hgrow1 HW1.size (fun g e => (World.ownsRow.lt HOO.out g e).1)
          have HG2 : Hid (Blk w2 (W0.heap.size + 1) 22 #[.slice Aa ac ca, .slice Ab bc cb]) := ((HG.out.alloc _).alloc _).grown hgrow1 (OwnI.ne (L := L) HOO.out ((HG.out.alloc _).alloc _) (by decide))
          clear hown1 hgrow1 HW1 HOO HO HG HW hnews hone hbase hw
          go_wp2
          go_roundw
          case rel => exact ⟨j + 1, _, by omega, by go_num, by rw [List.length_append]; simp; omega, HO2.out, HG2.out, HW2.out⟩
          case measure => simp [intOf]; omega
        · have hjn' : ¬ (j : Int) < (n : Int) := by omega
          clear hw
          go_wp2
          go_roundw
          case rel => exact ⟨k + 1, L, by omega, by go_num, by omega, HO.out, HG.out, HW.out⟩
          case measure => simp [intOf]; omega
    · have hlt' : ¬ (k : Int) < 2 := by omega
      go_wp2
      obtain ⟨lc, Hlc⟩ : ∃ m, Hid (L.length = m) := ⟨_, rfl⟩
      rw [Hlc.out] at hL ⊢
      go_loopw [102] (fun i ws => ∃ j : Nat, j ≤ lc ∧ i = .int .i64 j ∧ Below wr.heap.size wr ws) (fun i _ => lc - (intOf i).toNat)
      case atStart => exact ⟨0, by omega, rfl, Below.refl _ _⟩
      case round =>
        obtain ⟨i, hi, rfl, h3⟩ := hrel
        have HQ := hid h3
        by_cases hil : i < lc
        · obtain ⟨gL, e, hgL, hcL⟩ := HVW.out (by rw [Hlc.out]; omega)
          subst e
          obtain ⟨d, hd⟩ : ∃ d, L.getD i 0 = d := ⟨_, rfl⟩
          have c0 := (h3.cell (p := ⟨gL, i, none⟩) hgL).trans (hcL i (by rw [Hlc.out]; exact hil))
          rw [hd] at c0
          have hw3 := HW.out.trans (h3.mono HW.out.size)
          have Sa3 := hid (Sa.out.below hw3)
          have Sb3 := hid (Sb.out.below hw3)
          have Su3 := hid (Su.out.below hw3)
          have Sv3 := hid (Sv.out.below hw3)
          have Sx3 := hid (Sx.out.below hw3)
          obtain ⟨p, hp⟩ : ∃ p, memB a d = p := ⟨_, rfl⟩
          obtain ⟨q, hq⟩ : ∃ q, memB b d = q := ⟨_, rfl⟩
          have hu := HU.out d
          have hv := HV.out d
          have hx := HX.out d
          rw [hp, hq] at hu hv hx
          have MA := hid hp
          have MB := hid hq
          have MU := hid hu
          have MV := hid hv
          have MX := hid hx
          clear hp hq hu hv hx hd hcL hw3 h3
          cases p <;> cases q
          · go_wp2_with fail
            refine (in_eq (l := a) (r := false) (d := d) MA.out Hac.out (by omega) Sa3.out).mono ?_
            rintro e _ ⟨rfl, rfl⟩
            go_wp2_with fail
            refine (in_eq (l := b) (r := false) (d := d) MB.out Hbc.out (by omega) Sb3.out).mono ?_
            rintro e _ ⟨rfl, rfl⟩
            go_wp2_with fail
            refine (in_eq (l := u) (r := false) (d := d) MU.out Huc.out (by omega) Su3.out).mono ?_
            rintro e _ ⟨rfl, rfl⟩
            go_wp2_with fail
            refine (in_eq (l := v) (r := false) (d := d) MV.out Hvc.out (by omega) Sv3.out).mono ?_
            rintro e _ ⟨rfl, rfl⟩
            go_wp2_with fail
            refine (in_eq (l := x) (r := false) (d := d) MX.out Hxc.out (by omega) Sx3.out).mono ?_
            rintro e _ ⟨rfl, rfl⟩
            go_wp2_with fail
            refine (has_eq (la := a) (r := false) (d := d) MA.out Ia.out Hac.out Sa3.out).mono ?_
            rintro e u9 ⟨rfl, h⟩
            go_wp2
            go_roundw
            case rel => exact ⟨i + 1, by omega, by go_num, HQ.out.trans (h.mono HQ.out.size)⟩
            case measure => simp [intOf]; omega
          · go_wp2_with fail
            refine (in_eq (l := a) (r := false) (d := d) MA.out Hac.out (by omega) Sa3.out).mono ?_
            rintro e _ ⟨rfl, rfl⟩
            go_wp2_with fail
            refine (in_eq (l := b) (r := true) (d := d) MB.out Hbc.out (by omega) Sb3.out).mono ?_
            rintro e _ ⟨rfl, rfl⟩
            go_wp2_with fail
            refine (in_eq (l := u) (r := true) (d := d) MU.out Huc.out (by omega) Su3.out).mono ?_
            rintro e _ ⟨rfl, rfl⟩
            go_wp2_with fail
            refine (in_eq (l := v) (r := false) (d := d) MV.out Hvc.out (by omega) Sv3.out).mono ?_
            rintro e _ ⟨rfl, rfl⟩
            go_wp2_with fail
            refine (in_eq (l := x) (r := false) (d := d) MX.out Hxc.out (by omega) Sx3.out).mono ?_
            rintro e _ ⟨rfl, rfl⟩
            go_wp2_with fail
            refine (has_eq (la := a) (r := false) (d := d) MA.out Ia.out Hac.out Sa3.out).mono ?_
            rintro e u9 ⟨rfl, h⟩
            go_wp2
            go_roundw
            case rel => exact ⟨i + 1, by omega, by go_num, HQ.out.trans (h.mono HQ.out.size)⟩
            case measure => simp [intOf]; omega
          · go_wp2_with fail
            refine (in_eq (l := a) (r := true) (d := d) MA.out Hac.out (by omega) Sa3.out).mono ?_
            rintro e _ ⟨rfl, rfl⟩
            go_wp2_with fail
            refine (in_eq (l := b) (r := false) (d := d) MB.out Hbc.out (by omega) Sb3.out).mono ?_
            rintro e _ ⟨rfl, rfl⟩
            go_wp2_with fail
            refine (in_eq (l := u) (r := true) (d := d) MU.out Huc.out (by omega) Su3.out).mono ?_
            rintro e _ ⟨rfl, rfl⟩
            go_wp2_with fail
            refine (in_eq (l := v) (r := false) (d := d) MV.out Hvc.out (by omega) Sv3.out).mono ?_
            rintro e _ ⟨rfl, rfl⟩
            go_wp2_with fail
            refine (in_eq (l := x) (r := true) (d := d) MX.out Hxc.out (by omega) Sx3.out).mono ?_
            rintro e _ ⟨rfl, rfl⟩
            go_wp2_with fail
            refine (has_eq (la := a) (r := true) (d := d) MA.out Ia.out Hac.out Sa3.out).mono ?_
            rintro e u9 ⟨rfl, h⟩
            go_wp2
            go_roundw
            case rel => exact ⟨i + 1, by omega, by go_num, HQ.out.trans (h.mono HQ.out.size)⟩
            case measure => simp [intOf]; omega
          · go_wp2_with fail
            refine (in_eq (l := a) (r := true) (d := d) MA.out Hac.out (by omega) Sa3.out).mono ?_
            rintro e _ ⟨rfl, rfl⟩
            go_wp2_with fail
            refine (in_eq (l := b) (r := true) (d := d) MB.out Hbc.out (by omega) Sb3.out).mono ?_
            rintro e _ ⟨rfl, rfl⟩
            go_wp2_with fail
            refine (in_eq (l := u) (r := true) (d := d) MU.out Huc.out (by omega) Su3.out).mono ?_
            rintro e _ ⟨rfl, rfl⟩
            go_wp2_with fail
            refine (in_eq (l := v) (r := true) (d := d) MV.out Hvc.out (by omega) Sv3.out).mono ?_
            rintro e _ ⟨rfl, rfl⟩
            go_wp2_with fail
            refine (in_eq (l := x) (r := false) (d := d) MX.out Hxc.out (by omega) Sx3.out).mono ?_
            rintro e _ ⟨rfl, rfl⟩
            go_wp2_with fail
            refine (has_eq (la := a) (r := true) (d := d) MA.out Ia.out Hac.out Sa3.out).mono ?_
            rintro e u9 ⟨rfl, h⟩
            go_wp2
            go_roundw
            case rel => exact ⟨i + 1, by omega, by go_num, HQ.out.trans (h.mono HQ.out.size)⟩
            case measure => simp [intOf]; omega
        · have hil' : ¬ (i : Int) < (lc : Int) := by omega
          go_wp2
          go_ret
          exact ⟨rfl, HB.out.trans ((HW.out.trans (h3.mono HW.out.size)).mono HB.out.size)⟩
end Go.Proofs.Ytpafnakepgjmnaa
